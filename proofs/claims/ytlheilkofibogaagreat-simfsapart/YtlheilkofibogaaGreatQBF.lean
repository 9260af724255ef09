import Derived.Test.YtlheilkofibogaaGreatQBD
import Derived.Test.YtlheilkofibogaaGreatQAL
import Derived.LaidEqlPtr
import Derived.Deep.MidRow
namespace Go.Proofs.YtlheilkofibogaaGreat
open Go.RowKit Go.Maps
set_option linter.unusedVariables false
set_option linter.unusedSimpArgs false
set_option maxHeartbeats 400000 in
set_option maxRecDepth 100000 in
theorem cloneC_any (v : Value) (l : List Pc) (hl : l.length ≤ 3298534883328) (w : World) (h : KR pgE w v l) : Calls Tryz.prog 31 #[v] w fun e w' => ∃ P c, e = .returned (.slice P l.length c) ∧ w'.ownsRow w.heap.size 75 3 (.slice P l.length c) l.length (pgE.fl l) ∧ Below w.heap.size w w' := by
  by_cases hv : v = .slice none 0 0
  · subst hv
    have hln : l = [] := by
      obtain ⟨P, c, e⟩ := h.form
      injection e with _ e _
      exact List.eq_nil_of_length_eq_zero e.symm
    subst hln
    have hcmp : ∀ W, (binOp .eql 52 (.slice none 0 0) (.slice none 0 0)).run Tryz.prog W = .ok (.bool true) W := fun W => by kernel_rfl
    clear h
    go_enter Tryz.func31, Tryz.ntmps31
    go_wp2
    go_returns
    exact ⟨none, 0, rfl, ⟨rfl, Or.inl ⟨rfl, rfl⟩⟩, Below.refl _ _⟩
  · obtain ⟨ad, c, rfl⟩ : ∃ ad c, v = .slice (some ad) l.length c := by
      rcases h with ⟨rfl, p, c, rfl, hpc⟩ | ⟨g, o, c, rfl, _⟩
      · cases p with
        | none => obtain rfl := hpc rfl; exact absurd rfl hv
        | some ad => exact ⟨ad, c, rfl⟩
      · exact ⟨_, c, rfl⟩
    obtain ⟨n, hn⟩ : ∃ n, l.length = n := ⟨_, rfl⟩
    have hcmp : ∀ W, (binOp .eql 52 (.slice (some ad) n c) (.slice none 0 0)).run Tryz.prog W = .ok (.bool false) W := fun W => by kernel_rfl
    obtain ⟨W1, hW1⟩ : ∃ W1, w.alloc (.cells #[] 75) = W1 := ⟨_, rfl⟩
    have hb1 : Below w.heap.size w W1 := by rw [← hW1]; exact (Below.refl _ _).alloc (Nat.le_refl _) _
    have HO1 : Hid (W1.ownsRow w.heap.size 75 3 (.slice (some ⟨w.heap.size, 0, none⟩) 0 0) 0 (pgE.fl [])) := ⟨rfl, Or.inr ⟨w.heap.size, 0, #[], rfl, Nat.le_refl _, by rw [← hW1]; exact one_alloc _ _, Nat.le_refl _, Nat.zero_le _, rfl, rfl⟩⟩
    rw [hn] at h
    have HA1 : Hid (n = ([] : List Pc).length + l.length) := by show n = _; rw [hn]; exact (Nat.zero_add _).symm
    have HA2 : Hid (([] : List Pc).length + l.length ≤ maxLen) := by
      show _ ≤ _
      rw [List.length_nil, Nat.zero_add]
      exact Nat.le_trans hl (by decide)
    have HA3 : Hid ((([] : List Pc).length + l.length) * pgE.by_ ≤ 140737488355328) := by
      show _ * 40 ≤ _
      rw [List.length_nil, Nat.zero_add]
      omega
    have HKR : Hid (KR pgE W1 (.slice (some ad) n c) l) := h.on hb1
    have HB1 : Hid (Below w.heap.size w W1) := hb1
    have HN : Hid (l.length = n) := hn
    have HL : Hid (n ≤ 3298534883328) := by show _ ≤ _; rw [← hn]; exact hl
    rw [hn]
    clear h hb1 hv hl hn
    go_enter Tryz.func31, Tryz.ntmps31
    go_upto_region 3 with fail
    go_wp2_with (first
      | (at_builtin; refine wpList_app pgOk rfl (.tmp 5) (.tmp 6) rfl w.heap.size (.slice (some ⟨w.heap.size, 0, none⟩) 0 0) [] 0 rfl rfl HO1.out (.slice (some ad) n c) l rfl HKR.out n HA1.out HA2.out HA3.out HB1.out.size ?_; intro v3 w3 ho3 hg3; obtain ⟨P9, k9, hkf⟩ := own_form ho3; subst hkf)
      | go_in)
    have HB3 : Hid (Below w.heap.size w w3) := HB1.out.grown hg3 HB1.out.size (fun q hq => (World.ownsRow.lt HO1.out q hq).1)
    have HO3 : Hid (w3.ownsRow w.heap.size 75 3 (.slice P9 n k9) n (pgE.fl l)) := ho3
    clear ho3 hg3 hW1
    go_wp2
    go_returns
    exact ⟨P9, k9, rfl, HO3.out, HB3.out⟩
set_option maxHeartbeats 400000 in
set_option maxRecDepth 100000 in
theorem cloneQ_any (v : Value) (l : List Pq) (hl : l.length ≤ 3298534883328) (w : World) (h : KR plnE w v l) : Calls Tryz.prog 33 #[v] w fun e w' => ∃ P c, e = .returned (.slice P l.length c) ∧ w'.ownsRow w.heap.size 80 3 (.slice P l.length c) l.length (plnE.fl l) ∧ Below w.heap.size w w' := by
  by_cases hv : v = .slice none 0 0
  · subst hv
    have hln : l = [] := by
      obtain ⟨P, c, e⟩ := h.form
      injection e with _ e _
      exact List.eq_nil_of_length_eq_zero e.symm
    subst hln
    have hcmp : ∀ W, (binOp .eql 53 (.slice none 0 0) (.slice none 0 0)).run Tryz.prog W = .ok (.bool true) W := fun W => by kernel_rfl
    clear h
    go_enter Tryz.func33, Tryz.ntmps33
    go_wp2
    go_returns
    exact ⟨none, 0, rfl, ⟨rfl, Or.inl ⟨rfl, rfl⟩⟩, Below.refl _ _⟩
  · obtain ⟨ad, c, rfl⟩ : ∃ ad c, v = .slice (some ad) l.length c := by
      rcases h with ⟨rfl, p, c, rfl, hpc⟩ | ⟨g, o, c, rfl, _⟩
      · cases p with
        | none => obtain rfl := hpc rfl; exact absurd rfl hv
        | some ad => exact ⟨ad, c, rfl⟩
      · exact ⟨_, c, rfl⟩
    obtain ⟨n, hn⟩ : ∃ n, l.length = n := ⟨_, rfl⟩
    have hcmp : ∀ W, (binOp .eql 53 (.slice (some ad) n c) (.slice none 0 0)).run Tryz.prog W = .ok (.bool false) W := fun W => by kernel_rfl
    obtain ⟨W1, hW1⟩ : ∃ W1, w.alloc (.cells #[] 80) = W1 := ⟨_, rfl⟩
    have hb1 : Below w.heap.size w W1 := by rw [← hW1]; exact (Below.refl _ _).alloc (Nat.le_refl _) _
    have HO1 : Hid (W1.ownsRow w.heap.size 80 3 (.slice (some ⟨w.heap.size, 0, none⟩) 0 0) 0 (plnE.fl [])) := ⟨rfl, Or.inr ⟨w.heap.size, 0, #[], rfl, Nat.le_refl _, by rw [← hW1]; exact one_alloc _ _, Nat.le_refl _, Nat.zero_le _, rfl, rfl⟩⟩
    rw [hn] at h
    have HA1 : Hid (n = ([] : List Pq).length + l.length) := by show n = _; rw [hn]; exact (Nat.zero_add _).symm
    have HA2 : Hid (([] : List Pq).length + l.length ≤ maxLen) := by
      show _ ≤ _
      rw [List.length_nil, Nat.zero_add]
      exact Nat.le_trans hl (by decide)
    have HA3 : Hid ((([] : List Pq).length + l.length) * plnE.by_ ≤ 140737488355328) := by
      show _ * 24 ≤ _
      rw [List.length_nil, Nat.zero_add]
      omega
    have HKR : Hid (KR plnE W1 (.slice (some ad) n c) l) := h.on hb1
    have HB1 : Hid (Below w.heap.size w W1) := hb1
    have HN : Hid (l.length = n) := hn
    have HL : Hid (n ≤ 3298534883328) := by show _ ≤ _; rw [← hn]; exact hl
    rw [hn]
    clear h hb1 hv hl hn
    go_enter Tryz.func33, Tryz.ntmps33
    go_upto_region 3 with fail
    go_wp2_with (first
      | (at_builtin; refine wpList_app plnOk rfl (.tmp 5) (.tmp 6) rfl w.heap.size (.slice (some ⟨w.heap.size, 0, none⟩) 0 0) [] 0 rfl rfl HO1.out (.slice (some ad) n c) l rfl HKR.out n HA1.out HA2.out HA3.out HB1.out.size ?_; intro v3 w3 ho3 hg3; obtain ⟨P9, k9, hkf⟩ := own_form ho3; subst hkf)
      | go_in)
    have HB3 : Hid (Below w.heap.size w w3) := HB1.out.grown hg3 HB1.out.size (fun q hq => (World.ownsRow.lt HO1.out q hq).1)
    have HO3 : Hid (w3.ownsRow w.heap.size 80 3 (.slice P9 n k9) n (plnE.fl l)) := ho3
    clear ho3 hg3 hW1
    go_wp2
    go_returns
    exact ⟨P9, k9, rfl, HO3.out, HB3.out⟩
end Go.Proofs.YtlheilkofibogaaGreat
namespace Go.Proofs.YtlheilkofibogaaGreat
open Go.RowKit Go.Maps
set_option linter.unusedVariables false
set_option linter.unusedSimpArgs false
/-- A block of cells that nothing froze. -/
def FilB (W : World) (a : Nat) : Prop := ∃ cs t, W.heap[a]? = some (.cells cs t)
theorem infoF : ∃ j : TypeInfo, Tryz.prog.info? 90 = some j ∧ j.size ≠ 0 := by
  have h : (Tryz.prog.info? 90).map (·.size) = some 4 := by kernel_rfl
  cases hq : Tryz.prog.info? 90 with
  | none => rw [hq] at h; cases h
  | some j => rw [hq] at h; exact ⟨j, rfl, by simp at h; omega⟩
theorem equalP (W : World) (a b : Nat) (ha : FilB W a) (hb : FilB W b) : (Op.equal 73 (ptr (some a)) (ptr (some b))).run Tryz.prog W = .ok (decide (a = b)) W := by
  obtain ⟨j, hj, hs⟩ := infoF
  by_cases h : a = b
  · subst h
    have h : ∀ d : Nat, (Op.equalIn (d + 1) 73 (.pointer (some ⟨a, 0, none⟩)) (.pointer (some ⟨a, 0, none⟩))).run Tryz.prog W = .ok true W := fun d => by
      simp [Op.equalIn, run_underlying Tryz.underlying73, sizeOf, typeInfo, hj, run_sameAddr_same]
    rw [decide_eq_true rfl]
    exact h 9999
  · obtain ⟨ca, ta, ha⟩ := ha
    obtain ⟨cb, tb, hb⟩ := hb
    have hne : (⟨a, 0, none⟩ : Addr) ≠ ⟨b, 0, none⟩ := fun e => h (by injection e)
    have h2 : ∀ d : Nat, (Op.equalIn (d + 1) 73 (.pointer (some ⟨a, 0, none⟩)) (.pointer (some ⟨b, 0, none⟩))).run Tryz.prog W = .ok false W := fun d => by
      simp [Op.equalIn, run_underlying Tryz.underlying73, sizeOf, typeInfo, hj, hs, run_sameAddr_other W hne ha hb]
    rw [decide_eq_false h]
    exact h2 9999
def findL (x : Nat) : List (Nat × Nat) → Nat → Option (Nat × Value)
  | [], _ => none
  | y :: L, i => if x = y.1 then some (i, ptr (some y.2)) else findL x L (i + 1)
def lookL (x : Nat) (L : List (Nat × Nat)) : Option Nat := (L.find? (fun y => decide (y.1 = x))).map (·.2)
theorem findL_look (x : Nat) : ∀ (L : List (Nat × Nat)) (i : Nat), (findL x L i).map (·.2) = (lookL x L).map (fun b => ptr (some b))
  | [], _ => rfl
  | y :: L, i => by
    unfold findL lookL
    by_cases h : x = y.1
    · rw [if_pos h, List.find?_cons_of_pos (by simp [h])]
      rfl
    · rw [if_neg h, List.find?_cons_of_neg (by simp; exact fun e => h e.symm)]
      exact findL_look x L (i + 1)
theorem ask_run (W : World) (x : Nat) (hx : FilB W x) : ∀ (es : List MapEntry) (L : List (Nat × Nat)) (i : Nat), es.map (fun e => (e.key, e.val)) = L.map (fun y => (ptr (some y.1), ptr (some y.2))) → (∀ y ∈ L, FilB W y.1) → (Instr.findAsking 73 (ptr (some x)) es i).run Tryz.prog W = .ok (findL x L i) W := by
  intro es
  induction es with
  | nil =>
    intro L i h _
    have : L = [] := by simpa using h
    subst this
    rfl
  | cons e es ih =>
    intro L i h hL
    cases L with
    | nil => simp at h
    | cons y L =>
      simp only [List.map_cons, List.cons.injEq, Prod.mk.injEq] at h
      obtain ⟨⟨h1, h2⟩, h3⟩ := h
      have he := equalP W x y.1 hx (hL y (by simp))
      have hr := ih L (i + 1) h3 (fun z hz => hL z (by simp [hz]))
      unfold Instr.findAsking findL
      rw [Sem.run_bind, h1, he]
      by_cases hxy : x = y.1
      · rw [decide_eq_true hxy, if_pos hxy, h2]
        rfl
      · rw [decide_eq_false hxy, if_neg hxy]
        exact hr
theorem key_run (W : World) (x : Nat) (hx : FilB W x) (es : List MapEntry) (L : List (Nat × Nat)) (h : es.map (fun e => (e.key, e.val)) = L.map (fun y => (ptr (some y.1), ptr (some y.2)))) (hL : ∀ y ∈ L, FilB W y.1) : (Instr.findKey 73 (ptr (some x)) es).run Tryz.prog W = .ok (findL x L 0) W := by
  unfold Instr.findKey
  rw [Sem.run_bind, run_underlying Tryz.underlying73]
  cases es with
  | nil =>
    have : L = [] := by simpa using h
    subst this
    rfl
  | cons e es =>
    have hk : ∃ y, e.key = ptr (some y) := by
      cases L with
      | nil => simp at h
      | cons y L =>
        simp only [List.map_cons, List.cons.injEq, Prod.mk.injEq] at h
        exact ⟨_, h.1.1⟩
    obtain ⟨y, hy⟩ := hk
    have hn : ∀ te, Instr.findNow (.pointer te) (ptr (some x)) (e :: es) 0 = none := fun te => by
      unfold Instr.findNow
      rw [hy]
      rfl
    simp only [Result.andThen]
    rw [hn]
    exact ask_run W x hx (e :: es) L 0 h hL
/-- A map from files to their twins: its entries, in order. -/
structure TwM (W : World) (mb : Nat) (L : List (Nat × Nat)) : Prop where
  ob : ∃ (es : Array MapEntry) (clock : Nat), W.heap[mb]? = some (.map es clock) ∧ es.toList.map (fun e => (e.key, e.val)) = L.map (fun y => (ptr (some y.1), ptr (some y.2)))
  fil : ∀ y ∈ L, FilB W y.1
theorem check_run (W : World) (em : Bool) (x : Nat) : (Instr.checkKey em 10000 73 (ptr (some x))).run Tryz.prog W = .ok () W := by
  unfold Instr.checkKey
  rw [Sem.run_bind, run_underlying Tryz.underlying73]
  rfl
theorem getM {W : World} {mb : Nat} {es : Array MapEntry} {clock : Nat} (hb : W.heap[mb]? = some (.map es clock)) : (getObj mb).run Tryz.prog W = .ok (.map es clock) W := by
  first | exact run_getObj_map hb | exact run_getObj_map _ _ _ _ hb | exact run_getObj_map _ _ _ hb
theorem setM {W : World} {mb : Nat} {es : Array MapEntry} {clock : Nat} (o : Obj) (hb : W.heap[mb]? = some (.map es clock)) : (setObj mb o).run Tryz.prog W = .ok () { W with heap := W.heap.setIfInBounds mb o } := by
  simp [setObj, Sem.run, hb]
theorem TwM.look {W : World} {mb : Nat} {L : List (Nat × Nat)} (h : TwM W mb L) {x : Nat} (hx : FilB W x) : (Instr.lookup 70 (.map (some mb)) (ptr (some x)) false).run Tryz.prog W = .ok (ptr (lookL x L)) W := by
  obtain ⟨⟨es, clock, hb, he⟩, hf⟩ := h
  have hk := key_run W x hx es.toList L he hf
  have hl := findL_look x L 0
  unfold Instr.lookup
  simp only [Sem.run_bind, Sem.run_pure, run_underlying Tryz.underlying70, Result.andThen_ok, getM hb, check_run, hk]
  cases hq : findL x L 0 with
  | none =>
    rw [hq] at hl
    have : lookL x L = none := by cases hz : lookL x L with | none => rfl | some b => rw [hz] at hl; cases hl
    rw [this]
    simp only [Sem.run_bind, Sem.run_pure, zeroP, Result.andThen_ok]
    rfl
  | some z =>
    rw [hq] at hl
    obtain ⟨i, v⟩ := z
    have : ∃ b, lookL x L = some b ∧ v = ptr (some b) := by
      cases hz : lookL x L with
      | none => rw [hz] at hl; cases hl
      | some b => rw [hz] at hl; exact ⟨b, rfl, by simpa using hl⟩
    obtain ⟨b, hb1, hb2⟩ := this
    rw [hb1, hb2]
    simp only [Sem.run_bind, Sem.run_pure, Result.andThen_ok]
    rfl
theorem TwM.put {W : World} {mb : Nat} {L : List (Nat × Nat)} (h : TwM W mb L) {x : Nat} (hx : FilB W x) (hn : lookL x L = none) (r : Nat) : ∃ w', (Instr.mapUpdate 70 (.map (some mb)) (ptr (some x)) (ptr (some r))).run Tryz.prog W = .ok () w' ∧ TwM w' mb (L ++ [(x, r)]) ∧ Only W w' mb := by
  obtain ⟨⟨es, clock, hb, he⟩, hf⟩ := h
  have hk := key_run W x hx es.toList L he hf
  have hl := findL_look x L 0
  rw [hn] at hl
  have hq : findL x L 0 = none := by cases hz : findL x L 0 with | none => rfl | some z => rw [hz] at hl; cases hl
  rw [hq] at hk
  have hlt : mb < W.heap.size := row_lt hb
  refine ⟨{ W with heap := W.heap.setIfInBounds mb (.map (es.push { key := ptr (some x), val := ptr (some r), born := clock }) (clock + 1)) }, ?_, ⟨⟨es.push { key := ptr (some x), val := ptr (some r), born := clock }, clock + 1, ?_, ?_⟩, ?_⟩, ?_⟩
  · unfold Instr.mapUpdate
    simp only [Sem.run_bind, Sem.run_pure, run_underlying Tryz.underlying70, Result.andThen_ok, getM hb, check_run, hk, setM _ hb]
  · show (W.heap.setIfInBounds mb _)[mb]? = _
    rw [Array.getElem?_setIfInBounds_self_of_lt hlt]
  · simp [he]
  · have hoth : ∀ k, k ≠ mb → (W.heap.setIfInBounds mb (.map (es.push { key := ptr (some x), val := ptr (some r), born := clock }) (clock + 1)))[k]? = W.heap[k]? := fun k hk => Array.getElem?_setIfInBounds_ne (fun e => hk e.symm)
    have hto : ∀ a, FilB W a → FilB { W with heap := W.heap.setIfInBounds mb (.map (es.push { key := ptr (some x), val := ptr (some r), born := clock }) (clock + 1)) } a := fun a ha => by
      obtain ⟨cs, t, ha⟩ := ha
      exact ⟨cs, t, (hoth a (fun e => by subst e; rw [hb] at ha; cases ha)).trans ha⟩
    intro y hy
    rw [List.mem_append] at hy
    rcases hy with hy | hy
    · exact hto _ (hf y hy)
    · have : y = (x, r) := by simpa using hy
      rw [this]; exact hto _ hx
  · exact ⟨rfl, rfl, rfl, by simp, fun k hk => Array.getElem?_setIfInBounds_ne (fun e => hk e.symm)⟩
end Go.Proofs.YtlheilkofibogaaGreat
namespace Go.Proofs.YtlheilkofibogaaGreat
open Go.RowKit Go.Maps
set_option linter.unusedVariables false
theorem own_zero' {w : World} {b e k n : Nat} {v : Value} {xs : List Value} (h : w.ownsRow b e k v n xs) : w.ownsRow 0 e k v n xs := by
  obtain ⟨h0, h1 | ⟨g, cap, cur, h1, hb, r⟩⟩ := h
  · exact ⟨h0, Or.inl h1⟩
  · exact ⟨h0, Or.inr ⟨g, cap, cur, h1, Nat.zero_le _, r⟩⟩
theorem setCellsQ (g T : Nat) : ∀ (vs : List Value) (pre old : List Value) (w : World), old.length = vs.length → w.heap[g]? = some (.cells (pre ++ old).toArray T) → (w.setCells g pre.length vs).heap[g]? = some (.cells (pre ++ vs).toArray T) ∧ Only w (w.setCells g pre.length vs) g := by
  intro vs
  induction vs with
  | nil =>
    intro pre old w hl h
    have : old = [] := List.eq_nil_of_length_eq_zero hl
    subst this
    exact ⟨by simpa [World.setCells] using h, Only.refl _ _⟩
  | cons v vs ih =>
    intro pre old w hl h
    cases old with
    | nil => simp at hl
    | cons o old =>
      have h1 : (w.setCell ⟨g, pre.length, none⟩ v).heap[g]? = some (.cells ((pre ++ [v]) ++ old).toArray T) := by
        rw [heap_setCell_same _ _ _ _ _ _ h]
        simp
      have h2 := ih (pre ++ [v]) old _ (by simpa using hl) h1
      rw [List.length_append] at h2
      refine ⟨?_, ?_⟩
      · have := h2.1
        simpa [World.setCells] using this
      · have := h2.2
        have h3 : Only w (w.setCell ⟨g, pre.length, none⟩ v) g := (Only.refl _ _).set _ _
        exact h3.trans (by simpa [World.setCells] using this)
end Go.Proofs.YtlheilkofibogaaGreat
