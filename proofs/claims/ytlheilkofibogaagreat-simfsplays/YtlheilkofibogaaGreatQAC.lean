import Derived.Test.YtlheilkofibogaaGreatQAB
import Derived.Deep.MidRow
import Derived.Deep.Cut
namespace Go.Proofs.YtlheilkofibogaaGreat
open Go.RowKit
set_option linter.unusedVariables false
set_option linter.unusedSimpArgs false
section
variable {α : Type} {E : ET α}
/-- append(own, row...), what is old stays. -/
theorem wpList_appB (ok : ETok E) {w : World} {ops : Array Oper} {rest : List Oper} {o : Oper} {a : Act} {Q' : Exit → Act → World → Prop} (hg : o.guard = none) (s x : Operand)
    (hop : o.op = Op.call { callee := Callee.builtin Builtin.append, args := #[s, x], argTypes := #[E.ST, E.ST] })
    (base : Nat) (v : Value) (xs : List α) (n : Nat) (hn : n = xs.length) (hs : a.eval s = v) (hown : w.ownsRow base E.T E.k v n (E.fl xs)) (r : Value) (l : List α) (hx : a.eval x = r) (hr : KR E w r l)
    (N : Nat) (hN : N = xs.length + l.length) (hl : xs.length + l.length ≤ maxLen) (hby : (xs.length + l.length) * E.by_ ≤ 140737488355328) (hb : base ≤ w.heap.size)
    (h : ∀ v' w', w'.ownsRow base E.T E.k v' N (E.fl (xs ++ l)) → Below base w w' → wpList Tryz.prog ops Q' rest (a.put o.dst v') w') :
    wpList Tryz.prog ops Q' (o :: rest) a w :=
  wpList_app ok hg s x hop base v xs n hn hs hown r l hx hr N hN hl hby hb fun v' w' ho hgw => h v' w' ho ((Below.refl base w).grown hgw hb (fun q hq => (World.ownsRow.lt hown q hq).1))
/-- append(own, one), the one laid into a block of its own just ahead. -/
theorem wpList_app1 (ok : ETok E) {w : World} {ops : Array Oper} {rest : List Oper} {o : Oper} {a : Act} {Q' : Exit → Act → World → Prop} (cs : Array Value) (x1 : α) (hcs : cs.toList = E.enc x1) (hg : o.guard = none) (s x : Operand)
    (hop : o.op = Op.call { callee := Callee.builtin Builtin.append, args := #[s, x], argTypes := #[E.ST, E.ST] })
    (base : Nat) (v : Value) (xs : List α) (n : Nat) (hn : n = xs.length) (hs : a.eval s = v) (hown : w.ownsRow base E.T E.k v n (E.fl xs)) (hx : a.eval x = .slice (some ⟨w.heap.size, 0, none⟩) 1 1)
    (hl : xs.length + 1 ≤ maxLen) (hby : (xs.length + 1) * E.by_ ≤ 140737488355328) (hb : base ≤ w.heap.size)
    (h : ∀ v' w', w'.ownsRow base E.T E.k v' (n + 1) (E.fl (xs ++ [x1])) → Below base w w' → wpList Tryz.prog ops Q' rest (a.put o.dst v') w') :
    wpList Tryz.prog ops Q' (o :: rest) a (w.alloc (.cells cs E.T)) := by
  have hb2 : Below w.heap.size w (w.alloc (.cells cs E.T)) := (Below.refl _ _).alloc (Nat.le_refl _) _
  have hx2 := one_alloc w (.cells cs E.T)
  refine wpList_appB ok hg s x hop base v xs n hn hs (own_keep hown (fun q _ hq => hb2.block q hq)) _ [x1] hx (Or.inr ⟨w.heap.size, 0, 1, rfl, fun j u hu => ?_⟩) (n + 1) (by simp [hn]) (by simpa using hl) (by simpa using hby) (Nat.le_trans hb hb2.size) ?_
  · rw [cell_of_row _ _ _ _ _ _ hx2, Nat.zero_add]
    have : (E.fl [x1]) = cs.toList := by simp [ET.fl, hcs]
    rw [this] at hu
    simpa using hu
  · intro v' w' ho hbw
    exact h v' w' ho ((hb2.mono hb).trans hbw)
end
theorem pickM_out {p : List Int} {i n : Nat} (h : p.length ≤ i) : pickM p i n = 0 := by unfold pickM; rw [List.getElem?_eq_none h]
theorem pickM_in {p : List Int} {i n : Nat} (h : i < p.length) : pickM p i n = if p[i] < 0 then 0 else (p[i] % ((n : Int) + 1)).toNat := by unfold pickM; rw [List.getElem?_eq_getElem h]
theorem pickM_le (p : List Int) (i n : Nat) : pickM p i n ≤ n := by
  unfold pickM
  split
  · exact Nat.zero_le _
  · rename_i x hx
    split
    · exact Nat.zero_le _
    · have h1 := Int.emod_lt_of_pos x (by omega : (0 : Int) < (n : Int) + 1)
      have h2 := Int.emod_nonneg x (by omega : ((n : Int) + 1) ≠ 0)
      omega
set_option maxHeartbeats 1000000 in
theorem pick_any (v : Value) (p : List Int) (i n : Nat) (hi : i ≤ 4611686018427387904) (hn : n ≤ 4611686018427387904) (w : World) (h : KR inE w v p) : Calls Tryz.prog 101 #[v, .int .i64 (i : Int), .int .i64 (n : Int)] w fun e w' => e = .returned (.int .i64 (pickM p i n : Int)) ∧ w' = w := by
  obtain ⟨P, c, rfl⟩ := h.form
  have H : Hid (KR inE w (.slice P p.length c) p) := h
  clear h
  by_cases hlt : p.length ≤ i
  · have hz : (p.length : Int) ≤ (i : Int) := by omega
    have HM : Hid (pickM p i n = 0) := pickM_out hlt
    clear hlt
    go_enter Tryz.func101, Tryz.ntmps101
    go_wp2
    go_ret
    exact ⟨by rw [HM.out]; rfl, rfl⟩
  · have hlt' : i < p.length := by omega
    obtain ⟨g, o, c', he, hc⟩ := H.out.cell inOk hlt'
    injection he with he1 _ he2
    subst he1
    have c0 : w.cell? ⟨g, o + i, none⟩ = some (.int .i64 p[i]) := by
      have := hc 0 _ rfl
      simpa [inE] using this
    have hz : ¬ (p.length : Int) ≤ (i : Int) := by omega
    have hz0 : (0 : Int) ≤ (i : Int) := by omega
    have hz1 : (i : Int) < (p.length : Int) := by omega
    have HM : Hid (pickM p i n = if p[i] < 0 then 0 else (p[i] % ((n : Int) + 1)).toNat) := pickM_in hlt'
    have hnw : IntKind.i64.wrap ((n : Int) + 1) = (n : Int) + 1 := by rw [IntKind.wrap_i64] <;> omega
    have hn0 : (((n : Int) + 1) == 0) = false := by rw [beq_eq_false_iff_ne]; omega
    have hn1 : ¬ (n : Int) + 1 = 0 := by omega
    obtain ⟨x, hx⟩ : ∃ x, p[i] = x := ⟨_, rfl⟩
    rw [hx] at c0 HM
    clear hlt hlt' hc he2 hx
    by_cases hneg : x < 0
    · have HM2 : Hid (pickM p i n = 0) := by show _ = _; rw [HM.out, if_pos hneg]
      clear HM
      go_enter Tryz.func101, Tryz.ntmps101
      go_wp2
      go_ret
      exact ⟨by rw [HM2.out]; rfl, rfl⟩
    · have hm1 := Int.emod_lt_of_pos x (by omega : (0 : Int) < (n : Int) + 1)
      have hm2 := Int.emod_nonneg x hn1
      have HM2 : Hid (((pickM p i n : Nat) : Int) = x % ((n : Int) + 1)) := by show _ = _; rw [HM.out, if_neg hneg]; omega
      have ht : x.tmod ((n : Int) + 1) = x % ((n : Int) + 1) := Int.tmod_eq_emod_of_nonneg (by omega)
      have htw : IntKind.i64.wrap (x % ((n : Int) + 1)) = x % ((n : Int) + 1) := by rw [IntKind.wrap_i64] <;> omega
      clear HM hm1 hm2
      go_enter Tryz.func101, Tryz.ntmps101
      go_wp2
      go_ret
      exact ⟨by rw [HM2.out]; rfl, rfl⟩
end Go.Proofs.YtlheilkofibogaaGreat
namespace Go.Proofs.YtlheilkofibogaaGreat
open Go.RowKit
set_option linter.unusedVariables false
set_option linter.unusedSimpArgs false
theorem boundL_cons (n : ByteArray) (f : Int) (dn : Bool) (x : Sl) (d : List Sl) : boundL n f dn (x :: d) = ((boundL n f (dn || (!dn && ltB n x.1)) d).1, (if (!dn && ltB n x.1) = true then [(n, f)] else []) ++ (if x.1 = n then [] else [x]) ++ (boundL n f (dn || (!dn && ltB n x.1)) d).2) := rfl
theorem boundL_len (n : ByteArray) (f : Int) : ∀ (d : List Sl) (dn : Bool), (boundL n f dn d).2.length + (if (boundL n f dn d).1 = true then 0 else 1) ≤ d.length + (if dn = true then 0 else 1)
  | [], dn => by show ([] : List Sl).length + _ ≤ _; simp [boundL]; exact Nat.le_refl _
  | x :: d, dn => by
    rw [boundL_cons]
    have := boundL_len n f d (dn || (!dn && ltB n x.1))
    cases dn <;> cases h : ltB n x.1 <;> simp [h] at this ⊢ <;> split <;> simp <;> omega
theorem boundM_len (d : List Sl) (n : ByteArray) (f : Int) : (boundM d n f).length ≤ d.length + 1 := by
  unfold boundM
  have := boundL_len n f d (decide (f < 0))
  simp only [List.length_append]
  split <;> split at this <;> simp_all <;> (try split at this) <;> omega
theorem cell_onB {B : Nat} {w w' : World} {g j : Nat} {v : Value} (h : w.cell? ⟨g, j, none⟩ = some v) (hg : g < B) (hb : Below B w w') : w'.cell? ⟨g, j, none⟩ = some v := by
  rw [← h]
  unfold World.cell?
  rw [hb.block g hg]
/-- where bound's loop stands. -/
def BndAt (d : List Sl) (n : ByteArray) (f : Int) (i : Nat) (dn : Bool) (xs : List Sl) : Prop :=
  boundL n f (decide (f < 0)) d = ((boundL n f dn (d.drop i)).1, xs ++ (boundL n f dn (d.drop i)).2) ∧ xs.length ≤ 2 * i
theorem BndAt.step {d : List Sl} {n : ByteArray} {f : Int} {i : Nat} {dn : Bool} {xs : List Sl} (h : BndAt d n f i dn xs) (hi : i < d.length) :
    BndAt d n f (i + 1) (dn || (!dn && ltB n d[i].1)) (xs ++ (if (!dn && ltB n d[i].1) = true then [(n, f)] else []) ++ (if d[i].1 = n then [] else [d[i]])) := by
  obtain ⟨h1, h2⟩ := h
  rw [List.drop_eq_getElem_cons hi, boundL_cons] at h1
  refine ⟨?_, ?_⟩
  · rw [h1]; simp only [List.append_assoc]
  · simp only [List.length_append]
    split <;> split <;> simp <;> omega
set_option maxHeartbeats 2000000 in
theorem bound_any (v : Value) (d : List Sl) (hd : d.length ≤ 1099511627776) (n : ByteArray) (f : Int) (w : World) (h : KR slE w v d) : Calls Tryz.prog 112 #[v, .string n, .int .i64 f] w fun e w' => ∃ v', e = .returned v' ∧ w'.ownsRow w.heap.size slE.T slE.k v' (boundM d n f).length (slE.fl (boundM d n f)) ∧ Below w.heap.size w w' := by
  obtain ⟨P, c, rfl⟩ := h.form
  have H : Hid (KR slE w (.slice P d.length c) d) := h
  clear h
  have HO : Hid (w.ownsRow w.heap.size slE.T slE.k (.slice none 0 0) 0 (slE.fl [])) := ⟨rfl, Or.inl ⟨rfl, rfl⟩⟩
  have HB0 : Hid (BndAt d n f 0 (decide (f < 0)) []) := ⟨rfl, Nat.le_refl _⟩
  obtain ⟨dn0, hdn0⟩ : ∃ b, decide (f < 0) = b := ⟨_, rfl⟩
  rw [hdn0] at HB0
  have HDN : Hid (decide (f < 0) = dn0) := hdn0
  go_enter Tryz.func112, Tryz.ntmps112
  go_wp2
  go_loopw [7, 8, 9] (fun co cd ci wr => ∃ (i : Nat) (dn : Bool) (xs : List Sl) (Pv : Option Addr) (cv : Nat), i ≤ d.length ∧ ci = .int .i64 (i : Int) ∧ cd = .bool dn ∧ co = .slice Pv xs.length cv ∧ BndAt d n f i dn xs ∧ wr.ownsRow w.heap.size slE.T slE.k (.slice Pv xs.length cv) xs.length (slE.fl xs) ∧ Below w.heap.size w wr) (fun _ _ ci _ => d.length - (intOf ci).toNat)
  case atStart => exact ⟨0, dn0, [], none, 0, Nat.zero_le _, rfl, rfl, rfl, HB0.out, HO.out, Below.refl _ _⟩
  case round =>
    obtain ⟨i, dn, xs, Pv, cv, hi, rfl, rfl, rfl, hbn, hown, hbw⟩ := hrel
    have HLN : Hid (xs.length ≤ 2 * d.length ∧ d.length ≤ 1099511627776) := ⟨by have := hbn.2; omega, hd⟩
    by_cases hlt : i < d.length
    · have hst := hbn.step hlt
      obtain ⟨g, o, c', he, hc⟩ := H.out.cell slOk hlt
      injection he with he1 _ he2
      subst he1
      obtain ⟨X, hX⟩ : ∃ X, d[i].1 = X := ⟨_, rfl⟩
      obtain ⟨Y, hY⟩ : ∃ Y, d[i].2 = Y := ⟨_, rfl⟩
      have hxy : d[i] = (X, Y) := Prod.ext hX hY
      rw [hxy] at hst hc
      have c0 : wr.cell? ⟨g, o + i * 2, none⟩ = some (.string X) := cell_on (hc 0 _ rfl) hbw
      have c1 : wr.cell? ⟨g, o + i * 2 + 1, none⟩ = some (.int .i64 Y) := cell_on (hc 1 _ rfl) hbw
      have HC0 : Hid (g < w.heap.size) := lt_of_cell (hc 0 _ rfl)
      have hz0 : (0 : Int) ≤ (i : Int) := by omega
      have hz1 : (i : Int) < (d.length : Int) := by omega
      have hiw : IntKind.i64.wrap ((i : Int) + 1) = (i : Int) + 1 := by rw [IntKind.wrap_i64] <;> omega
      have HI : Hid (i + 1 ≤ d.length) := hlt
      have HIL : Hid (i < d.length) := hlt
      have HOW : Hid (wr.ownsRow w.heap.size slE.T slE.k (.slice Pv xs.length cv) xs.length (slE.fl xs)) := hown
      have HBW : Hid (Below w.heap.size w wr) := hbw
      clear hbn hown hbw hc he2 hX hY hxy hlt
      cases dn with
      | true =>
        by_cases hx : X = n
        · have hxt : (X.toList == n.toList) = true := str_same (by rw [hx])
          have HST : Hid (BndAt d n f (i + 1) true xs) := by show BndAt d n f (i + 1) true xs; simpa [hx] using hst
          clear hst hx
          go_wp2
          go_roundw
          case rel => exact ⟨i + 1, _, xs, Pv, cv, HI.out, rfl, rfl, rfl, HST.out, HOW.out, HBW.out⟩
          case measure => have := HI.out; simp [intOf]; omega
        · have hxf : (X.toList == n.toList) = false := str_other (r_ba_ne hx)
          have HST : Hid (BndAt d n f (i + 1) true (xs ++ [(X, Y)])) := by show BndAt d n f (i + 1) true (xs ++ [(X, Y)]); simpa [hx] using hst
          clear hst hx
          go_wp2_with (at_builtin; go_must (refine wpList_app1 slOk #[.string X, .int .i64 Y] (X, Y) rfl rfl _ _ rfl w.heap.size _ xs _ rfl rfl HOW.out rfl ?h1b1 ?h1b2 ?h1b3 ?_))
          case h1b1 => unfold maxLen; (try simp only [List.length_append, List.length_cons, List.length_nil]); have := HLN.out; omega
          case h1b2 => show _ * 24 ≤ _; (try simp only [List.length_append, List.length_cons, List.length_nil]); have := HLN.out; omega
          case h1b3 => exact HBW.out.size
          intro vb wb hob hbb
          have HWB : Hid (Below w.heap.size w wb) := HBW.out.trans hbb
          obtain ⟨Pb, kb, hkb⟩ := own_form hob
          subst hkb
          have HOB : Hid (wb.ownsRow w.heap.size slE.T slE.k (.slice Pb (xs.length + 1) kb) (xs.length + 1) (slE.fl (xs ++ [(X, Y)]))) := hob
          clear hob hbb
          go_wp2
          go_roundw
          case rel => exact ⟨i + 1, _, xs ++ [(X, Y)], Pb, kb, HI.out, rfl, rfl, by simp, HST.out, by simpa using HOB.out, HWB.out⟩
          case measure => have := HI.out; simp [intOf]; omega
      | false =>
        cases hl : ltB n X with
        | true =>
          have hx : X ≠ n := fun e => by rw [e, ltB_irr] at hl; cases hl
          have hxf : (X.toList == n.toList) = false := str_other (r_ba_ne hx)
          have HST : Hid (BndAt d n f (i + 1) true (xs ++ [(n, f), (X, Y)])) := by show BndAt d n f (i + 1) true (xs ++ [(n, f), (X, Y)]); simpa [hx, hl] using hst
          have hll : Op.bytesLess X.toList n.toList = false := ltB_asym hl
          clear hst hx hl
          go_wp2_with (at_builtin; go_must (refine wpList_app1 slOk #[.string n, .int .i64 f] (n, f) rfl rfl _ _ rfl w.heap.size _ xs _ rfl rfl HOW.out rfl ?h2a1 ?h2a2 ?h2a3 ?_))
          case h2a1 => unfold maxLen; have := HLN.out; omega
          case h2a2 => show _ * 24 ≤ _; have := HLN.out; omega
          case h2a3 => exact HBW.out.size
          intro va wa hoa hba
          have HWA : Hid (Below w.heap.size w wa) := HBW.out.trans hba
          obtain ⟨Pa, ka, hka⟩ := own_form hoa
          subst hka
          have HOA : Hid (wa.ownsRow w.heap.size slE.T slE.k (.slice Pa (xs.length + 1) ka) (xs.length + 1) (slE.fl (xs ++ [(n, f)]))) := hoa
          have d0 := cell_onB c0 HC0.out hba
          have d1 := cell_onB c1 HC0.out hba
          clear hoa hba c0 c1
          go_wp2_with (at_builtin; go_must (refine wpList_app1 slOk #[.string X, .int .i64 Y] (X, Y) rfl rfl _ _ rfl w.heap.size _ (xs ++ [(n, f)]) (xs.length + 1) (by simp) rfl HOA.out rfl ?h3b1 ?h3b2 ?h3b3 ?_))
          case h3b1 => unfold maxLen; (try simp only [List.length_append, List.length_cons, List.length_nil]); have := HLN.out; omega
          case h3b2 => show _ * 24 ≤ _; (try simp only [List.length_append, List.length_cons, List.length_nil]); have := HLN.out; omega
          case h3b3 => exact HWA.out.size
          intro vb wb hob hbb
          have HWB : Hid (Below w.heap.size w wb) := HWA.out.trans hbb
          obtain ⟨Pb, kb, hkb⟩ := own_form hob
          subst hkb
          have HOB : Hid (wb.ownsRow w.heap.size slE.T slE.k (.slice Pb (xs.length + 1 + 1) kb) (xs.length + 1 + 1) (slE.fl (xs ++ [(n, f), (X, Y)]))) := hob
          clear hob hbb
          go_wp2
          go_roundw
          case rel => exact ⟨i + 1, _, xs ++ [(n, f), (X, Y)], Pb, kb, HI.out, rfl, rfl, by simp, HST.out, by simpa using HOB.out, HWB.out⟩
          case measure => have := HI.out; simp [intOf]; omega
        | false =>
          by_cases hx : X = n
          · have hll : Op.bytesLess X.toList n.toList = false := by rw [hx]; exact ltB_irr n
            have hxt : (X.toList == n.toList) = true := str_same (by rw [hx])
            have HST : Hid (BndAt d n f (i + 1) false xs) := by rw [hl] at hst; show BndAt d n f (i + 1) false xs; simpa [hx] using hst
            clear hst hx hl
            go_wp2
            go_roundw
            case rel => exact ⟨i + 1, _, xs, Pv, cv, HI.out, rfl, rfl, rfl, HST.out, HOW.out, HBW.out⟩
            case measure => have := HI.out; simp [intOf]; omega
          · have hll : Op.bytesLess X.toList n.toList = true := by
              rcases h2 : ltB X n with _ | _
              · exact absurd (ltB_tri h2 hl) hx
              · exact h2
            have hxf : (X.toList == n.toList) = false := str_other (r_ba_ne hx)
            have HST : Hid (BndAt d n f (i + 1) false (xs ++ [(X, Y)])) := by rw [hl] at hst; show BndAt d n f (i + 1) false (xs ++ [(X, Y)]); simpa [hx] using hst
            clear hst hx hl
            go_wp2_with (at_builtin; go_must (refine wpList_app1 slOk #[.string X, .int .i64 Y] (X, Y) rfl rfl _ _ rfl w.heap.size _ xs _ rfl rfl HOW.out rfl ?h4b1 ?h4b2 ?h4b3 ?_))
            case h4b1 => unfold maxLen; (try simp only [List.length_append, List.length_cons, List.length_nil]); have := HLN.out; omega
            case h4b2 => show _ * 24 ≤ _; (try simp only [List.length_append, List.length_cons, List.length_nil]); have := HLN.out; omega
            case h4b3 => exact HBW.out.size
            intro vb wb hob hbb
            have HWB : Hid (Below w.heap.size w wb) := HBW.out.trans hbb
            obtain ⟨Pb, kb, hkb⟩ := own_form hob
            subst hkb
            have HOB : Hid (wb.ownsRow w.heap.size slE.T slE.k (.slice Pb (xs.length + 1) kb) (xs.length + 1) (slE.fl (xs ++ [(X, Y)]))) := hob
            clear hob hbb
            go_wp2
            go_roundw
            case rel => exact ⟨i + 1, _, xs ++ [(X, Y)], Pb, kb, HI.out, rfl, rfl, by simp, HST.out, by simpa using HOB.out, HWB.out⟩
            case measure => have := HI.out; simp [intOf]; omega
    · have he : i = d.length := by omega
      have HOW : Hid (wr.ownsRow w.heap.size slE.T slE.k (.slice Pv xs.length cv) xs.length (slE.fl xs)) := hown
      have HBW : Hid (Below w.heap.size w wr) := hbw
      have hM : boundM d n f = xs ++ (if dn = true then [] else [(n, f)]) := by
        obtain ⟨h1, _⟩ := hbn
        unfold boundM
        rw [h1, he, List.drop_length]
        cases dn <;> simp [boundL]
      subst he
      clear hbn hown hbw
      cases dn with
      | true =>
        have HM : Hid (boundM d n f = xs) := by show _ = _; simpa using hM
        clear hM
        go_wp2
        go_ret
        rw [HM.out]
        exact ⟨_, rfl, HOW.out, HBW.out⟩
      | false =>
        have HM : Hid (boundM d n f = xs ++ [(n, f)]) := by show _ = _; simpa using hM
        clear hM
        go_wp2_with (at_builtin; go_must (refine wpList_app1 slOk #[.string n, .int .i64 f] (n, f) rfl rfl _ _ rfl w.heap.size _ xs _ rfl rfl HOW.out rfl ?h5a1 ?h5a2 ?h5a3 ?_))
        case h5a1 => unfold maxLen; have := HLN.out; omega
        case h5a2 => show _ * 24 ≤ _; have := HLN.out; omega
        case h5a3 => exact HBW.out.size
        intro va wa hoa hba
        have HWA : Hid (Below w.heap.size w wa) := HBW.out.trans hba
        obtain ⟨Pa, ka, hka⟩ := own_form hoa
        subst hka
        have HOA : Hid (wa.ownsRow w.heap.size slE.T slE.k (.slice Pa (xs.length + 1) ka) (xs.length + 1) (slE.fl (xs ++ [(n, f)]))) := hoa
        clear hoa hba
        go_wp2
        go_ret
        rw [HM.out]
        exact ⟨_, rfl, by rw [List.length_append]; exact HOA.out, HWA.out⟩
end Go.Proofs.YtlheilkofibogaaGreat
namespace Go.Proofs.YtlheilkofibogaaGreat
open Go.RowKit
set_option linter.unusedVariables false
set_option linter.unusedSimpArgs false
theorem own_lower {w : World} {b b' e size n : Nat} {v : Value} {xs : List Value} (h : w.ownsRow b' e size v n xs) (hb : b ≤ b') : w.ownsRow b e size v n xs := by
  refine ⟨h.1, ?_⟩
  rcases h.2 with q | ⟨a1, a2, a3, a4, a5, a6⟩
  · exact Or.inl q
  · exact Or.inr ⟨a1, a2, a3, a4, by omega, a6⟩
theorem row3c {w : World} {g T : Nat} {v0 v1 v2 : Value} (h : w.heap[g]? = some (.cells #[v0, v1, v2] T)) : w.cell? ⟨g, 0, none⟩ = some v0 ∧ w.cell? ⟨g, 1, none⟩ = some v1 ∧ w.cell? ⟨g, 2, none⟩ = some v2 := by
  refine ⟨?_, ?_, ?_⟩ <;> rw [cell_of_row _ _ _ _ _ _ h] <;> rfl
set_option maxHeartbeats 1000000 in
theorem after_any (v : Value) (d : List Sl) (hd : d.length ≤ 1099511627770) (c : Ch) (w : World) (h : KR slE w v d) : Calls Tryz.prog 100 #[v, .agg #[.string c.n, .string c.t, .int .i64 c.f]] w fun e w' => ∃ v', e = .returned v' ∧ w'.ownsRow w.heap.size slE.T slE.k v' (afterM d c).length (slE.fl (afterM d c)) ∧ Below w.heap.size w w' := by
  obtain ⟨W0, hW0⟩ : ∃ W0, W0 = w.alloc (.cells #[.string c.n, .string c.t, .int .i64 c.f] 119) := ⟨_, rfl⟩
  have HB0 : Hid (Below w.heap.size w W0) := by show Below _ _ _; rw [hW0]; exact (Below.refl _ _).alloc (Nat.le_refl _) _
  have HX0 : Hid (W0.heap[w.heap.size]? = some (.cells #[.string c.n, .string c.t, .int .i64 c.f] 119)) := by show _ = _; rw [hW0]; exact one_alloc _ _
  obtain ⟨r, hr⟩ : ∃ r, w.heap.size = r := ⟨_, rfl⟩
  have HR : Hid (w.heap.size = r) := hr
  have HK : Hid (KR slE W0 v d) := h.on HB0.out
  rw [hr] at HX0
  by_cases ht : c.t.size = 0
  · have e0 : c.t.toList.isEmpty = true := str_empty ht
    have HC : Hid _ := bound_any v d (by omega) c.n c.f W0 HK.out
    have HM : Hid (afterM d c = boundM d c.n c.f) := by show _ = _; simp [afterM, ht]
    clear h hr ht
    go_enter Tryz.func100, Tryz.ntmps100
    go_upto_region 1 with fail
    rw [← hW0, HR.out]
    clear hW0
    obtain ⟨x0, x1, x2⟩ := row3c HX0.out
    go_wp2_with fail
    refine (show Calls _ _ _ _ _ from HC.out).mono ?_
    rintro e w1 ⟨v', rfl, ho, hb⟩
    have HO : Hid _ := ho
    have HB : Hid (Below w.heap.size w w1) := HB0.out.trans (hb.mono HB0.out.size)
    clear ho hb x0 x1 x2
    go_wp2
    go_ret
    rw [HM.out]
    exact ⟨_, rfl, own_lower HO.out HB0.out.size, HB.out⟩
  · have e0 : c.t.toList.isEmpty = false := str_full ht
    have HC : Hid _ := bound_any v d (by omega) c.n (-1) W0 HK.out
    have HL : Hid ((boundM d c.n (-1)).length ≤ 1099511627776) := by have := boundM_len d c.n (-1); show _ ≤ _; omega
    have HM : Hid (afterM d c = boundM (boundM d c.n (-1)) c.t c.f) := by show _ = _; simp [afterM, ht]
    clear h hr ht
    go_enter Tryz.func100, Tryz.ntmps100
    go_upto_region 1 with fail
    rw [← hW0, HR.out]
    clear hW0
    obtain ⟨x0, x1, x2⟩ := row3c HX0.out
    go_wp2_with fail
    refine (show Calls _ _ _ _ _ from HC.out).mono ?_
    rintro e w1 ⟨v1, rfl, ho, hb⟩
    have HK1 : Hid (KR slE w1 v1 (boundM d c.n (-1))) := KR.own ho rfl
    have HB1 : Hid (Below w.heap.size w w1) := HB0.out.trans (hb.mono HB0.out.size)
    have HX1 : Hid (w1.heap[r]? = some (.cells #[.string c.n, .string c.t, .int .i64 c.f] 119)) := keep_row HX0.out hb
    clear ho hb x0 x1 x2
    obtain ⟨x0, x1, x2⟩ := row3c HX1.out
    obtain ⟨P1, k1, hk1⟩ := HK1.out.form
    subst hk1
    go_wp2_with fail
    refine (show Calls _ _ _ _ _ from bound_any _ _ HL.out c.t c.f w1 HK1.out).mono ?_
    rintro e w2 ⟨v2, rfl, ho, hb⟩
    have HO : Hid _ := ho
    have HB : Hid (Below w.heap.size w w2) := HB1.out.trans (hb.mono HB1.out.size)
    clear ho hb x0 x1 x2
    go_wp2
    go_ret
    rw [HM.out]
    exact ⟨_, rfl, own_lower HO.out HB1.out.size, HB.out⟩
end Go.Proofs.YtlheilkofibogaaGreat
