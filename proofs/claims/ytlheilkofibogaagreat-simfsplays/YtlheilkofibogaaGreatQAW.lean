import Derived.Test.YtlheilkofibogaaGreatQAV
import Derived.Test.YtlheilkofibogaaGreatQAU
namespace Go.Proofs.YtlheilkofibogaaGreat
open Go.RowKit Go.Maps
set_option linter.unusedVariables false
set_option linter.unusedSimpArgs false
theorem ltQ_key {a b a' b' : Pq} (h1 : a.s = a'.s ∧ a.c = a'.c) (h2 : b.s = b'.s ∧ b.c = b'.c) : ltQ a b ↔ ltQ a' b' := by
  unfold ltQ; rw [h1.1, h1.2, h2.1, h2.2]
theorem ltQ_tri {a b : Pq} (h : ¬ ltQ a b) (hn : ¬ (a.s = b.s ∧ a.c = b.c)) : ltQ b a := by
  unfold ltQ at *
  rcases Nat.lt_trichotomy a.s b.s with h1 | h1 | h1
  · exact absurd (Or.inl h1) h
  · refine Or.inr ⟨h1.symm, ?_⟩
    cases ha : a.c <;> cases hb : b.c
    · exact absurd ⟨h1, by rw [ha, hb]⟩ hn
    · exact ⟨rfl, rfl⟩
    · exact absurd (Or.inr ⟨h1, ha, hb⟩) h
    · exact absurd ⟨h1, by rw [ha, hb]⟩ hn
  · exact Or.inl h1
theorem ltQ_ne {a b : Pq} (h : ltQ a b) : a.s ≠ b.s ∨ a.c ≠ b.c := by
  unfold ltQ at h
  rcases h with h | ⟨_, h1, h2⟩
  · exact Or.inl (by omega)
  · exact Or.inr (by rw [h1, h2]; decide)
structure LayF (qs : List Pq) (p : Pq) (qs' : List Pq) : Prop where
  srt : qs'.Pairwise ltQ
  mem : p ∈ qs'
  old : ∀ q ∈ qs, ∃ q' ∈ qs', q'.s = q.s ∧ q'.c = q.c
  new : ∀ q ∈ qs', q = p ∨ (q ∈ qs ∧ (q.s ≠ p.s ∨ q.c ≠ p.c))
  len : qs'.length ≤ qs.length + 1
theorem LayL.facts {qs : List Pq} {p : Pq} {qs' : List Pq} (hs : qs.Pairwise ltQ) (h : LayL qs p qs') : LayF qs p qs' := by
  have hg := List.pairwise_iff_getElem.1 hs
  obtain ⟨i, hpl, ⟨hi, hk1, hk2, rfl⟩ | ⟨hno, rfl⟩⟩ := h
  · have hkey : ∀ j (hj : j < (qs.set i p).length), ((qs.set i p)[j]).s = (qs[j]'(by simpa using hj)).s ∧ ((qs.set i p)[j]).c = (qs[j]'(by simpa using hj)).c := fun j hj => by
      rw [List.getElem_set]
      by_cases e : i = j
      · subst e; rw [if_pos rfl]; exact ⟨hk1.symm, hk2.symm⟩
      · rw [if_neg e]; exact ⟨rfl, rfl⟩
    refine ⟨List.pairwise_iff_getElem.2 (fun a b ha hb hab => (ltQ_key (hkey a ha) (hkey b hb)).2 (hg a b _ _ hab)), List.mem_set hi p, fun q hq => ?_, fun q hq => ?_, by simp⟩
    · obtain ⟨j, hj, rfl⟩ := List.getElem_of_mem hq
      exact ⟨_, List.getElem_mem (l := qs.set i p) (by simpa using hj), hkey j (by simpa using hj)⟩
    · obtain ⟨j, hj, rfl⟩ := List.getElem_of_mem hq
      rw [List.getElem_set]
      by_cases e : i = j
      · left; rw [if_pos e]
      · right
        rw [if_neg e]
        have hj' : j < qs.length := by simpa using hj
        refine ⟨List.getElem_mem hj', ?_⟩
        rw [← hk1, ← hk2]
        rcases Nat.lt_or_gt_of_ne e with h1 | h1
        · have := ltQ_ne (hg i j hi hj' h1)
          exact this.imp (fun q e => q e.symm) (fun q e => q e.symm)
        · exact ltQ_ne (hg j i hj' hi h1)
  · have hlo : ∀ q ∈ qs.take i, ltQ q p := fun q hq => by
      obtain ⟨j, hj, rfl⟩ := List.getElem_of_mem hq
      rw [List.length_take] at hj
      rw [List.getElem_take]
      exact hpl.lo j (by omega) (by omega)
    have hhi : ∀ q ∈ qs.drop i, ltQ p q := fun q hq => by
      obtain ⟨j, hj, rfl⟩ := List.getElem_of_mem hq
      rw [List.length_drop] at hj
      rw [List.getElem_drop]
      have hi : i < qs.length := by omega
      have h0 : ltQ p qs[i] := ltQ_tri (hpl.hi i hi (Nat.le_refl _)) (fun e => hno ⟨hi, e⟩)
      rcases Nat.eq_zero_or_pos j with rfl | hj0
      · exact h0
      · exact ltQ_trans h0 (hg i (i + j) hi (by omega) (by omega))
    refine ⟨?_, by simp, fun q hq => ⟨q, ?_, rfl, rfl⟩, fun q hq => ?_, by simp; omega⟩
    · rw [List.pairwise_append, List.pairwise_cons]
      refine ⟨hs.sublist (List.take_sublist _ _), ⟨hhi, hs.sublist (List.drop_sublist _ _)⟩, fun a ha b hb => ?_⟩
      rcases List.mem_cons.1 hb with rfl | hb
      · exact hlo a ha
      · exact ltQ_trans (hlo a ha) (hhi b hb)
    · rw [← List.take_append_drop i qs] at hq
      rcases List.mem_append.1 hq with hq | hq
      · exact List.mem_append_left _ hq
      · exact List.mem_append_right _ (List.mem_cons_of_mem _ hq)
    · rcases List.mem_append.1 hq with hq | hq
      · exact Or.inr ⟨List.mem_of_mem_take hq, ltQ_ne (hlo q hq)⟩
      · rcases List.mem_cons.1 hq with rfl | hq
        · exact Or.inl rfl
        · exact Or.inr ⟨List.mem_of_mem_drop hq, (ltQ_ne (hhi q hq)).imp (fun q e => q e.symm) (fun q e => q e.symm)⟩
theorem failM_app (l : List (Int × Int)) (s n : Nat) (p : Int) : failM (l ++ [((s : Int), p)]) n = if n = s then some p else failM l n := by
  unfold failM
  rw [List.reverse_append, List.reverse_singleton, List.singleton_append, List.find?_cons]
  by_cases h : n = s
  · subst h; simp
  · rw [if_neg h]
    have : ((s : Int) == (n : Int)) = false := by simp; omega
    simp only [this]
/-- A failure is planned. -/
theorem Plans.fail {F : Fs} {qs qs' : List Pq} {p : Pq} {part : Int} (h : Plans F qs) (hl : LayF qs p qs') (hc : p.c = false) (hs : F.steps < p.s) : Plans { F with fails := F.fails ++ [((p.s : Int), part)] } qs' := by
  refine ⟨hl.srt, fun q hq => ?_, fun n r hn hf => ?_, fun n hn hf => ?_⟩
  · rcases hl.new q hq with rfl | ⟨hq, _⟩
    · exact hs
    · exact h.ahead q hq
  · have hf' : failM (F.fails ++ [((p.s : Int), part)]) n = some r := hf
    rw [failM_app] at hf'
    by_cases e : n = p.s
    · exact ⟨p, hl.mem, hc, e.symm⟩
    · rw [if_neg e] at hf'
      obtain ⟨q, hq, h1, h2⟩ := h.all n r hn hf'
      obtain ⟨q', hq', e1, e2⟩ := hl.old q hq
      exact ⟨q', hq', e2.trans h1, e1.trans h2⟩
  · obtain ⟨q, hq, h1, h2⟩ := h.cr n hn hf
    obtain ⟨q', hq', e1, e2⟩ := hl.old q hq
    exact ⟨q', hq', e2.trans h1, e1.trans h2⟩
theorem Holds.fail {W : World} {F : Fs} {q p : Pq} {part : Int} (h : Holds W F q) (hc : p.c = false) (hn : q.s ≠ p.s ∨ q.c ≠ p.c) : Holds W { F with fails := F.fails ++ [((p.s : Int), part)] } q := by
  refine ⟨h.cr, fun hq => ?_⟩
  obtain ⟨r, h1, h2⟩ := h.fl hq
  refine ⟨r, h1, ?_⟩
  show failM (F.fails ++ [((p.s : Int), part)]) q.s = some r
  rw [failM_app, if_neg (by rcases hn with h | h; exact h; exact absurd (hq.trans hc.symm) h)]
  exact h2
end Go.Proofs.YtlheilkofibogaaGreat
namespace Go.Proofs.YtlheilkofibogaaGreat
open Go.RowKit Go.Maps
set_option linter.unusedVariables false
set_option linter.unusedSimpArgs false
/-! slices.DeleteFunc of the crash among the plans. -/
def okQ (q : Pq) : Bool := !q.c
theorem eM_cr1 (args : Array Value) (w : World) : (callFunc 67 args).run Tryz.prog w = .ok (.enter 67 args) w := by kernel_rfl
set_option maxHeartbeats 1000000 in
set_option maxRecDepth 100000 in
theorem indexQ_any (v : Value) (l : List Pq) (hl : l.length ≤ 3298534883328) (w : World) (h : KR plnE w v l) :
    Calls Tryz.prog 96 #[v, .func (.func 67) #[] #[]] w fun e w' => Below w.heap.size w w' ∧ ((∃ i : Nat, i < l.length ∧ e = .returned (.int .i64 (i : Int)) ∧ (∀ t (h : t < l.length), t < i → okQ l[t] = true) ∧ ∀ h : i < l.length, okQ l[i] = false) ∨ (e = .returned (.int .i64 (-1)) ∧ ∀ t (h : t < l.length), okQ l[t] = true)) := by
  obtain ⟨P, c, rfl⟩ := h.form
  have H : Hid (KR plnE w (.slice P l.length c) l) := h
  clear h
  go_enter Tryz.func96, Tryz.ntmps96
  go_wp2
  go_loopw [8] (fun ci wr => ∃ i : Nat, i ≤ l.length ∧ ci = .int .i64 (i : Int) ∧ Below w.heap.size w wr ∧ ∀ t (h : t < l.length), t < i → okQ l[t] = true) (fun ci _ => l.length - (intOf ci).toNat)
  case atStart => exact ⟨0, by omega, rfl, Below.refl _ _, fun t _ h => by omega⟩
  case round =>
    obtain ⟨i, hi, rfl, hb, hall⟩ := hrel
    have HBR : Hid (Below w.heap.size w wr) := hb
    have HALL : Hid _ := hall
    by_cases hlt : i < l.length
    · obtain ⟨E, o, c', he, hcell⟩ := (H.out.on hb).cell plnOk hlt
      injection he with he1 _ he2
      subst he1
      have x0 : wr.cell? ⟨E, o + i * 3, none⟩ = some (.int .i64 (l[i].s : Int)) := hcell 0 _ rfl
      have x1 : wr.cell? ⟨E, o + i * 3 + 1, none⟩ = some (.bool l[i].c) := hcell 1 _ rfl
      have x2 : wr.cell? ⟨E, o + i * 3 + 2, none⟩ = some (meetV l[i]) := hcell 2 _ rfl
      have hz0 : (0 : Int) ≤ (i : Int) := by omega
      have hz1 : (i : Int) < (l.length : Int) := by omega
      have hiw : IntKind.i64.wrap ((i : Int) + 1) = (i : Int) + 1 := by rw [IntKind.wrap_i64] <;> omega
      have HEI : Hid (∀ W, Calls Tryz.prog 67 #[.agg #[.int .i64 (l[i].s : Int), .bool l[i].c, meetV l[i]]] W fun e w' => e = .returned (.bool l[i].c) ∧ Below W.heap.size W w') := fun W => Crash1_any l[i] W
      have HO : Hid (okQ l[i] = !l[i].c) := rfl
      obtain ⟨b, hbb⟩ : ∃ b, l[i].c = b := ⟨_, rfl⟩
      obtain ⟨ys, hys⟩ : ∃ ys, l[i].s = ys := ⟨_, rfl⟩
      obtain ⟨mv, hmv⟩ : ∃ mv, meetV l[i] = mv := ⟨_, rfl⟩
      rw [hbb] at HO x1
      rw [hys] at x0
      rw [hmv] at x2
      rw [hbb, hys, hmv] at HEI
      clear hb hall hbb hys hmv hcell he2
      go_wp2_with fail
      refine (show Calls _ _ _ _ _ from HEI.out _).mono ?_
      rintro e w1 ⟨rfl, hb1⟩
      have HB1 : Hid (Below w.heap.size w w1) := bel_to HBR.out hb1 (Nat.le_refl _)
      clear hb1 x0 x1 x2
      cases b with
      | true =>
        go_wp2
        go_returns
        exact ⟨HB1.out, Or.inl ⟨i, hlt, rfl, HALL.out, fun _ => HO.out⟩⟩
      | false =>
        go_wp2
        go_roundw
        case rel =>
          refine ⟨i + 1, hlt, by first | rfl | congr 1, HB1.out, fun t ht hti => ?_⟩
          rcases Nat.lt_or_eq_of_le (Nat.le_of_lt_succ hti) with h1 | h1
          · exact HALL.out t ht h1
          · subst h1; exact HO.out
        case measure => simp [intOf]; omega
    · have he : i = l.length := by omega
      subst he
      clear hb hall
      go_wp2
      go_returns
      exact ⟨HBR.out, Or.inr ⟨rfl, fun t ht => HALL.out t ht ht⟩⟩
/-- what stands while plans go: i that stay, then from j on those not yet met. -/
structure DI (W : World) (E o c : Nat) (l : List Pq) (i j : Nat) : Prop where
  row : ∃ cur, W.heap[E]? = some (.cells cur 80) ∧ (o + c) * 3 ≤ cur.size ∧ (∀ (t : Nat) (u : Value), (plnE.fl ((l.take j).filter okQ))[t]? = some u → cur[o * 3 + t]? = some u) ∧ ∀ t (h : t < l.length), j ≤ t → ∀ (k : Nat) (v : Value), (plnE.enc l[t])[k]? = some v → cur[o * 3 + (t * 3 + k)]? = some v
  num : i = ((l.take j).filter okQ).length
theorem DI.on {W W' : World} {E o c i j : Nat} {l : List Pq} (h : DI W E o c l i j) (hb : Below W.heap.size W W') : DI W' E o c l i j := by
  obtain ⟨cur, h1, h2⟩ := h.row; exact ⟨⟨cur, (hb.block E (row_lt h1)).trans h1, h2⟩, h.num⟩
theorem takeQ_snoc (l : List Pq) (j : Nat) (h : j < l.length) : l.take (j + 1) = l.take j ++ [l[j]] := by rw [List.take_add_one, List.getElem?_eq_getElem h]; rfl
theorem DI.skip {W : World} {E o c i j : Nat} {l : List Pq} (h : DI W E o c l i j) (hj : j < l.length) (ho : okQ l[j] = !true) : DI W E o c l i (j + 1) := by
  obtain ⟨cur, h1, h2, h3, h5⟩ := h.row
  have e : (l.take (j + 1)).filter okQ = (l.take j).filter okQ := by
    rw [takeQ_snoc l j hj, List.filter_append, List.filter_cons_of_neg (by rw [ho]; simp), List.filter_nil, List.append_nil]
  exact ⟨⟨cur, h1, h2, by rw [e]; exact h3, fun t ht hjt => h5 t ht (by omega)⟩, by rw [e]; exact h.num⟩
theorem DI.put {W W' : World} {E o c i j : Nat} {l : List Pq} {cur : Array Value} (hs : (o + c) * 3 ≤ cur.size) (hc : l.length ≤ c) (h3 : ∀ (t : Nat) (u : Value), (plnE.fl ((l.take j).filter okQ))[t]? = some u → cur[o * 3 + t]? = some u) (h5 : ∀ t (h : t < l.length), j ≤ t → ∀ (k : Nat) (v : Value), (plnE.enc l[t])[k]? = some v → cur[o * 3 + (t * 3 + k)]? = some v) (hn : i = ((l.take j).filter okQ).length) (hj : j < l.length) (hij : i < j) (ho : okQ l[j] = !false)
    (hW : W'.heap[E]? = some (.cells (spl cur (o * 3 + i * 3) (plnE.enc l[j])) 80)) : DI W' E o c l (i + 1) (j + 1) := by
  have hl3 : (plnE.enc l[j]).length = 3 := rfl
  have hz : (o * 3 + i * 3) + (plnE.enc l[j]).length ≤ cur.size := by rw [hl3]; omega
  have e : (l.take (j + 1)).filter okQ = (l.take j).filter okQ ++ [l[j]] := by
    rw [takeQ_snoc l j hj, List.filter_append, List.filter_cons_of_pos (by rw [ho]; rfl), List.filter_nil]
  refine ⟨⟨_, hW, by rw [spl_size _ _ _ hz]; exact hs, fun t u hu => ?_, fun t ht hjt k v hv => ?_⟩, by rw [e, List.length_append, ← hn]; rfl⟩
  · rw [e, flq_app, fl_sing, List.getElem?_append, flq_len, ← hn] at hu
    rw [spl_get _ _ _ _ hz, hl3]
    by_cases h1 : t < i * 3
    · rw [if_pos h1] at hu
      rw [if_pos (by omega)]; exact h3 t u hu
    · rw [if_neg h1] at hu
      have := (List.getElem?_eq_some_iff.1 hu).1
      rw [hl3] at this
      rw [if_neg (by omega), if_pos (by omega), ← hu]
      congr 1; omega
  · rw [spl_get _ _ _ _ hz, hl3, if_neg (by omega), if_neg (by omega)]
    exact h5 t ht (by omega) k v hv
theorem DI.ini {W : World} {E o c i : Nat} {l : List Pq} (h : PX W E o c l) (hi : i < l.length) (hlo : ∀ t (h : t < l.length), t < i → okQ l[t] = true) (hat : ∀ h : i < l.length, okQ l[i] = false) : DI W E o c l i (i + 1) := by
  obtain ⟨cur, h1, h2, h3⟩ := h.row
  have e0 : (l.take i).filter okQ = l.take i := List.filter_eq_self.2 (fun x hx => by
    obtain ⟨t, ht, rfl⟩ := List.getElem_of_mem hx
    rw [List.length_take] at ht
    rw [List.getElem_take]; exact hlo t (by omega) (by omega))
  have e : (l.take (i + 1)).filter okQ = l.take i := by
    rw [takeQ_snoc l i hi, List.filter_append, List.filter_cons_of_neg (by rw [hat hi]; simp), List.filter_nil, List.append_nil, e0]
  refine ⟨⟨cur, h1, h2, fun t u hu => ?_, fun t ht _ k v hv => ?_⟩, by rw [e, List.length_take]; omega⟩
  · rw [e] at hu
    have hl := (List.getElem?_eq_some_iff.1 hu).1
    rw [flq_len, List.length_take] at hl
    rw [flq_take l i (by omega), List.getElem?_take_of_lt (by omega)] at hu
    exact h3 t u hu
  · exact h3 _ v (ET.fl_at plnOk l t ht k v hv)
end Go.Proofs.YtlheilkofibogaaGreat
namespace Go.Proofs.YtlheilkofibogaaGreat
open Go.RowKit Go.Maps
set_option linter.unusedVariables false
set_option linter.unusedSimpArgs false
def zeroQ (k : Nat) : List Value := (Builtin.zeroCells #[.int .i64 0, .bool false, .nilFunc] k).toList
theorem zeroQ_len (k : Nat) : (zeroQ k).length = k * 3 := by unfold zeroQ; simp [Builtin.zeroCells]
theorem zeroQ_one (k : Nat) : ∀ v ∈ zeroQ k, v.oneCell' = true := by
  intro v hv
  unfold zeroQ Builtin.zeroCells at hv
  simp at hv
  obtain ⟨i, _, rfl⟩ := hv
  have h3 : i % 3 = 0 ∨ i % 3 = 1 ∨ i % 3 = 2 := by omega
  rcases h3 with h | h | h <;> rw [h] <;> rfl
theorem run_clrQ (E o k c : Nat) (ty : TypeId) (W : World) (cur : Array Value) (hE : W.heap[E]? = some (.cells cur 80)) (ho : o + k * 3 ≤ cur.size) :
    Sem.run Tryz.prog (Builtin.clear_ #[53] ty #[.slice (some ⟨E, o, none⟩) k c]) W = .ok (.tuple #[]) (W.setCells E o (zeroQ k)) := by
  obtain ⟨i0, hi, hz0, hz1, hz2⟩ := info_parts infoP
  have hst := run_storeCells_cells (P := Tryz.prog) E o (zeroQ k) 0 W (fun j hj => by rw [zeroQ_len] at hj; rw [cell_of_row _ _ _ _ _ _ hE, Array.getElem?_eq_getElem (by omega)]; rfl) (fun j hj => frozen_of_row _ _ _ _ _ hE) (zeroQ_one _)
  simp only [Nat.add_zero] at hst
  cases k with
  | zero =>
    have hz : zeroQ 0 = [] := by unfold zeroQ Builtin.zeroCells; simp
    rw [hz]
    simp only [Builtin.clear_]
    simp [go_sem]
    rfl
  | succ k =>
    unfold zeroQ at hst ⊢
    simp only [Builtin.clear_]
    simp [go_sem]
    rw [hst]
    rfl
set_option maxHeartbeats 2000000 in
set_option maxRecDepth 100000 in
theorem deleteQ_any (E o c : Nat) (l : List Pq) (hl : l.length ≤ 3298534883328) (w : World) (hB : PX w E o c l) :
    Calls Tryz.prog 66 #[.slice (some ⟨E, o * 3, none⟩) l.length c, .func (.func 67) #[] #[]] w fun e w' => e = .returned (.slice (some ⟨E, o * 3, none⟩) (l.filter okQ).length c) ∧ ModP (fun k => k = E) w w' ∧ PX w' E o c (l.filter okQ) := by
  have HB : Hid (PX w E o c l) := hB
  have HI : Hid _ := indexQ_any _ l hl w hB.prow.kr
  have hle := hB.le
  have hmx := hB.max
  have HEC := eM_cr1
  clear hB
  go_enter Tryz.func66, Tryz.ntmps66
  go_wp2_with fail
  refine (show Calls _ _ _ _ _ from HI.out).mono ?_
  rintro e w1 ⟨hb1, ⟨i, hi, rfl, hlo, hat⟩ | ⟨rfl, hall⟩⟩
  · have HB1 : Hid (Below w.heap.size w w1) := hb1
    have HINI : Hid (DI w1 E o c l i (i + 1)) := DI.ini (HB.out.on hb1) hi hlo hat
    have hm1 : ¬ ((i : Int) = -1) := by omega
    clear hb1 hlo hat
    go_wp2
    go_loopw [5, 6, 7] (fun ci cj _ wr => ∃ i j : Nat, i < j ∧ j ≤ l.length ∧ ci = .int .i64 (i : Int) ∧ cj = .int .i64 (j : Int) ∧ DI wr E o c l i j ∧ ModP (fun k => k = E) w wr) (fun _ cj _ _ => l.length - (intOf cj).toNat)
    case atStart => exact ⟨i, i + 1, by omega, by omega, rfl, by first | rfl | congr 1, HINI.out, ModP.below HB1.out⟩
    case round =>
      clear HINI HB1 hm1 hi
      obtain ⟨i, j, hij, hj, rfl, rfl, hD, hG⟩ := hrel
      have HD : Hid (DI wr E o c l i j) := hD
      have HG : Hid (ModP (fun k => k = E) w wr) := hG
      obtain ⟨cur, r1, r2, r3, r5⟩ := hD.row
      have HN : Hid _ := hD.num
      by_cases hlt : j < l.length
      · have x0 : wr.cell? ⟨E, o * 3 + j * 3, none⟩ = some (.int .i64 (l[j].s : Int)) := by rw [cell_of_row _ _ _ _ _ _ r1]; exact r5 j hlt (Nat.le_refl _) 0 _ rfl
        have x1 : wr.cell? ⟨E, o * 3 + j * 3 + 1, none⟩ = some (.bool l[j].c) := by rw [cell_of_row _ _ _ _ _ _ r1, Nat.add_assoc]; exact r5 j hlt (Nat.le_refl _) 1 _ rfl
        have x2 : wr.cell? ⟨E, o * 3 + j * 3 + 2, none⟩ = some (meetV l[j]) := by rw [cell_of_row _ _ _ _ _ _ r1, Nat.add_assoc]; exact r5 j hlt (Nat.le_refl _) 2 _ rfl
        have hEl : E < wr.heap.size := row_lt r1
        have hz0 : (0 : Int) ≤ (j : Int) := by omega
        have hz1 : (j : Int) < (l.length : Int) := by omega
        have hzi : (0 : Int) ≤ (i : Int) := by omega
        have hzn : (i : Int) < (l.length : Int) := by omega
        have hjw : IntKind.i64.wrap ((j : Int) + 1) = (j : Int) + 1 := by rw [IntKind.wrap_i64] <;> omega
        have hiw : IntKind.i64.wrap ((i : Int) + 1) = (i : Int) + 1 := by rw [IntKind.wrap_i64] <;> omega
        have HEI : Hid (∀ W, Calls Tryz.prog 67 #[.agg #[.int .i64 (l[j].s : Int), .bool l[j].c, meetV l[j]]] W fun e w' => e = .returned (.bool l[j].c) ∧ Below W.heap.size W w') := fun W => Crash1_any l[j] W
        have HO : Hid (okQ l[j] = !l[j].c) := rfl
        have HM1 : Hid ((meetV l[j]).oneCell' = true) := rfl
        have HPUT : Hid (∀ W', W'.heap[E]? = some (.cells (spl cur (o * 3 + i * 3) [.int .i64 (l[j].s : Int), .bool l[j].c, meetV l[j]]) 80) → okQ l[j] = !false → DI W' E o c l (i + 1) (j + 1)) := fun W' hW ho => DI.put (W := wr) r2 hle r3 r5 HN.out hlt hij ho hW
        have HR1 : Hid (wr.heap[E]? = some (.cells cur 80)) := r1
        obtain ⟨b, hbb⟩ : ∃ b, l[j].c = b := ⟨_, rfl⟩
        obtain ⟨ys, hys⟩ : ∃ ys, l[j].s = ys := ⟨_, rfl⟩
        obtain ⟨mv, hmv⟩ : ∃ mv, meetV l[j] = mv := ⟨_, rfl⟩
        rw [hbb] at HO x1
        rw [hys] at x0
        rw [hmv] at x2 HM1
        rw [hbb, hys, hmv] at HEI HPUT
        clear hD hG hbb hys hmv r1 r3 r5
        go_upto_region 8 with (first
          | (refine ldP E (o * 3 + j * 3) (.int .i64 (ys : Int)) (.bool b) mv _ rfl rfl rfl x0 x1 x2 ?_)
          | (refine stP rfl _ _ rfl wr.heap.size 0 (.int .i64 (ys : Int)) (.bool b) mv #[.int .i64 0, .bool false, .nilFunc] rfl rfl ⟨rfl, rfl, HM1.out⟩ (one_alloc _ _) (by simp) ?_; intro W2 hr2 ho2))
        have hv2 : W2.heap[wr.heap.size]? = some (.cells #[.int .i64 (ys : Int), .bool b, mv] 80) := hr2
        have hb2 : Below wr.heap.size wr W2 := ((Below.refl _ wr).alloc (Nat.le_refl _) _).trans (ho2.below (Nat.le_refl _))
        have HV2 : Hid _ := hv2
        have HB2 : Hid (Below wr.heap.size wr W2) := hb2
        obtain ⟨y0, y1, y2, _⟩ := row3 hv2
        clear hr2 ho2 x0 x1 x2 hv2 hb2
        go_wp2_with fail
        refine (show Calls _ _ _ _ _ from HEI.out _).mono ?_
        rintro e w3 ⟨rfl, hb3⟩
        have hv3 := (hb3.block _ (row_lt HV2.out)).trans HV2.out
        have HB3 : Hid (Below wr.heap.size wr w3) := bel_to HB2.out hb3 (Nat.le_refl _)
        obtain ⟨v0, v1, v2, _⟩ := row3 hv3
        clear hb3 y0 y1 y2 hv3
        cases b with
        | true =>
          have HR : Hid (DI w3 E o c l i (j + 1)) := (HD.out.on HB3.out).skip hlt HO.out
          have HG2 : Hid (ModP (fun k => k = E) w w3) := HG.out.trans (ModP.below HB3.out)
          go_wp2
          go_roundw
          case rel => first | exact ⟨i, j + 1, by omega, by omega, rfl, by first | rfl | congr 1, HR.out, HG2.out⟩ | exact ⟨_, _, _, _, _, _, _, _, _, _, _, _, _, _, _, _, _, _, _, _, _, _, _, ⟨i, j + 1, by omega, by omega, rfl, by first | rfl | congr 1, HR.out, HG2.out⟩, rfl⟩
          case measure => simp [intOf]; omega
        | false =>
          have HR3 : Hid (w3.heap[E]? = some (.cells cur 80)) := (HB3.out.block E hEl).trans HR1.out
          go_wp2_with (refine stP rfl _ _ rfl E (o * 3 + i * 3) (.int .i64 (ys : Int)) (.bool false) mv cur rfl rfl ⟨rfl, rfl, HM1.out⟩ HR3.out (by omega) ?_; intro W4 hr4 ho4)
          have HR : Hid (DI W4 E o c l (i + 1) (j + 1)) := HPUT.out W4 hr4 HO.out
          have HG2 : Hid (ModP (fun k => k = E) w W4) := (HG.out.trans (ModP.below HB3.out)).trans (ModP.only ho4 rfl)
          go_roundw
          case rel => first | exact ⟨i + 1, j + 1, by omega, by omega, by first | rfl | congr 1, by first | rfl | congr 1, HR.out, HG2.out⟩ | exact ⟨_, _, _, _, _, _, _, _, _, _, _, _, _, _, _, _, _, _, _, _, _, _, _, ⟨i + 1, j + 1, by omega, by omega, by first | rfl | congr 1, by first | rfl | congr 1, HR.out, HG2.out⟩, rfl⟩
          case measure => simp [intOf]; omega
      · have he : j = l.length := by omega
        subst he
        rw [List.take_length] at r3
        have r4 : i = (l.filter okQ).length := by have := HN.out; rw [List.take_length] at this; exact this
        obtain ⟨k, hk⟩ : ∃ k, l.length - i = k := ⟨_, rfl⟩
        have hcl : ∀ ty cc, Sem.run Tryz.prog (Builtin.clear_ #[53] ty #[.slice (some ⟨E, o * 3 + i * 3, none⟩) k cc]) wr = .ok (.tuple #[]) (wr.setCells E (o * 3 + i * 3) (zeroQ k)) := fun ty cc => run_clrQ E (o * 3 + i * 3) k cc ty wr cur r1 (by omega)
        have hzl := zeroQ_len k
        have hzz : (o * 3 + i * 3) + (zeroQ k).length ≤ cur.size := by omega
        have HR : Hid (PX (wr.setCells E (o * 3 + i * 3) (zeroQ k)) E o c (l.filter okQ)) := by
          refine ⟨⟨_, heap_cells E _ (zeroQ k) (o * 3 + i * 3) wr cur r1 hzz, by rw [spl_size _ _ _ hzz]; exact r2, fun t u hu => ?_⟩, by omega, hmx⟩
          have hl' := (List.getElem?_eq_some_iff.1 hu).1
          rw [flq_len, ← r4] at hl'
          rw [spl_get _ _ _ _ hzz, if_pos (by omega)]
          exact r3 t u hu
        have HG2 : Hid (ModP (fun k => k = E) w (wr.setCells E (o * 3 + i * 3) (zeroQ k))) := HG.out.trans (ModP.only (grown_only E _ _ wr) rfl)
        have HI4 : Hid (i = (l.filter okQ).length) := r4
        have hci : ¬ (c = i) := by omega
        have hic : (i : Int) ≤ (c : Int) := by omega
        have hin : (i : Int) ≤ (l.length : Int) := by omega
        clear r1 r2 r3 r4 r5 hG hD hzl hzz
        go_wp2
        go_returns
        exact ⟨by rw [← HI4.out]; rfl, HG2.out, HR.out⟩
  · have hf : l.filter okQ = l := List.filter_eq_self.2 (fun x hx => by obtain ⟨t, ht, rfl⟩ := List.getElem_of_mem hx; exact hall t ht)
    have HF : Hid _ := hf
    have HG : Hid (ModP (fun k => k = E) w w1 ∧ PX w1 E o c l) := ⟨ModP.below hb1, HB.out.on hb1⟩
    clear hb1 hall hf
    go_wp2
    go_returns
    rw [HF.out]
    exact ⟨rfl, HG.out⟩
end Go.Proofs.YtlheilkofibogaaGreat
