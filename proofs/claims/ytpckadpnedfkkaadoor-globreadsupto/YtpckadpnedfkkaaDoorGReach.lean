import Derived.Test.YtpckadpnedfkkaaDoorGStepsA
import Derived.Test.YtpckadpnedfkkaaDoorGWalk
import Derived.Maps.AppendAt
namespace Go.Proofs.YtpckadpnedfkkaaDoor
open Go.RowKit Gb
set_option linter.unusedVariables false
def pcells (l : List Nat) : List Value := l.map fun (k : Nat) => Value.int .i64 (k : Int)
theorem pcells_snoc (l : List Nat) (k : Nat) : pcells (l ++ [k]) = pcells l ++ [.int .i64 (k : Int)] := by unfold pcells; rw [List.map_append]; rfl
/-- a pattern's steps, as they lie in memory. -/
structure Steps (w : World) (gs : Nat) (p : List St) : Prop where
  many : ∀ k, k ≤ p.length → w.cell? ⟨gs, k * 5 + 4, none⟩ = some (.bool (an p k))
  word : ∀ k, k ≤ p.length → ∀ q, q < 4 → w.cell? ⟨gs, k * 5 + q, none⟩ = some (wv (at' p k).f q)
  lt : gs < w.heap.size
theorem Steps.on {w w' : World} {gs : Nat} {p : List St} (h : Steps w gs p) (hb : w'.heap[gs]? = w.heap[gs]?) (hz : w.heap.size ≤ w'.heap.size) : Steps w' gs p :=
  ⟨fun k hk => (World.cell?_of_block hb).trans (h.many k hk), fun k hk q hq => (World.cell?_of_block hb).trans (h.word k hk q hq), Nat.lt_of_lt_of_le h.lt hz⟩
theorem steps_of {w : World} {base : Nat} {v : Value} {p : List St} (h : w.ownsRow base 63 5 v (p ++ [endSt]).length (scells (p ++ [endSt]))) : ∃ gs cap, v = .slice (some ⟨gs, 0, none⟩) (p.length + 1) cap ∧ Steps w gs p := by
  obtain ⟨g, cap, e, _, hlt, hc⟩ := own_step h (by simp)
  rw [List.length_append] at e
  have key : ∀ k, k ≤ p.length → (p ++ [endSt])[k]? = some (at' p k) := by
    intro k hk
    rcases Nat.lt_or_ge k p.length with h | h
    · rw [List.getElem?_append_left h]
      unfold at'
      rw [List.getD_eq_getElem?_getD, List.getElem?_eq_getElem h]; rfl
    · rw [at_end p k h, List.getElem?_append_right h, show k - p.length = 0 by omega]; rfl
  refine ⟨g, cap, e, ⟨fun k hk => ?_, fun k hk q hq => ?_, hlt⟩⟩
  · rw [Nat.mul_comm]; exact (hc k _ (key k hk)).1
  · rw [Nat.mul_comm]; exact (hc k _ (key k hk)).2 q hq
/-- what a slice that grows leaves as it was. -/
structure Grew (w w' : World) (v v' : Value) : Prop where
  fr : w.grownBy w' v.ownBlock
  ob : v'.ownBlock = v.ownBlock ∨ ∃ g, v'.ownBlock = some g ∧ w.heap.size ≤ g
theorem Grew.trans {w w1 w2 : World} {v v1 v2 : Value} (h : Grew w w1 v v1) (h' : Grew w1 w2 v1 v2) : Grew w w2 v v2 := by
  refine ⟨⟨h'.fr.os.trans h.fr.os, h'.fr.tape.trans h.fr.tape, h'.fr.output.trans h.fr.output, Nat.le_trans h.fr.size h'.fr.size, fun k hk hne => ?_⟩, ?_⟩
  · refine (h'.fr.block k (Nat.lt_of_lt_of_le hk h.fr.size) ?_).trans (h.fr.block k hk hne)
    rcases h.ob with e | ⟨g, e, hg⟩
    · rw [e]; exact hne
    · rw [e]; intro x; have := Option.some.inj x; omega
  · rcases h'.ob with e | ⟨g, e, hg⟩
    · rw [e]; exact h.ob
    · exact Or.inr ⟨g, e, Nat.le_trans h.fr.size hg⟩
theorem Grew.alloc {w w' : World} {v v' : Value} (O : Obj) (h : Grew (w.alloc O) w' v v') : Grew w w' v v' := by
  refine ⟨⟨h.fr.os, h.fr.tape, h.fr.output, ?_, fun k hk hne => ?_⟩, ?_⟩
  · have := h.fr.size; simp at this; omega
  · rw [h.fr.block k (by simp; omega) hne]; exact heap_alloc_old _ _ hk
  · rcases h.ob with e | ⟨g, e, hg⟩
    · exact Or.inl e
    · exact Or.inr ⟨g, e, by simp at hg; omega⟩
theorem Grew.refl (w : World) (v : Value) : Grew w w v v := ⟨⟨rfl, rfl, rfl, Nat.le_refl _, fun _ _ _ => rfl⟩, Or.inl rfl⟩
theorem infoI : (Tryd.prog.info? 3).map (fun i => (i.zero, i.size, i.bytes)) = some (some (.int .i64 0), 1, 8) := by kernel_rfl
theorem reachP_no {p : List St} {k : Nat} (h : an p k = false) (l : List Nat) : reachP p l k = l ++ [k] := by unfold reachP; rw [if_neg (by rw [h]; decide)]
theorem reachP_yes {p : List St} {k : Nat} (h : an p k = true) (l : List Nat) : reachP p l k = (l ++ [k + 1]) ++ [k] := by unfold reachP; rw [if_pos h]
set_option maxHeartbeats 1000000 in
set_option maxRecDepth 20000 in
theorem reach_any (base : Nat) (v : Value) (l : List Nat) (p : List St) (gs cap k : Nat) (w : World) (hS : Steps w gs p) (hk : k ≤ p.length) (hp : p.length ≤ 3000000) (hgs : gs < base) (hl : l.length ≤ 100000000) (hbase : base ≤ w.heap.size) (hown : w.ownsRow base 3 1 v l.length (pcells l)) :
    Calls Tryd.prog 26 #[v, .slice (some ⟨gs, 0, none⟩) (p.length + 1) cap, .int .i64 (k : Int)] w fun e w' => ∃ v', e = .returned v' ∧ w'.ownsRow base 3 1 v' (reachP p l k).length (pcells (reachP p l k)) ∧ Grew w w' v v' := by
  obtain ⟨i0, hi, hz0, hz1, hz2⟩ := info_parts infoI
  have HO : Hid (w.ownsRow base 3 1 v l.length (pcells l)) := hown
  have hm := hS.many k hk
  clear hown hS
  by_cases ha : an p k = true
  · rw [ha] at hm
    have HRP : Hid _ := reachP_yes ha l
    go_enter Tryd.func26, Tryd.ntmps26
    go_upto_region 2 with fail
    go_wp2_with (at_builtin; refine wpList_append_own_at _ rfl _ _ 57 rfl base 3 i0 (.int .i64 0) 1 8 Tryd.underlying57 hi hz0 hz1 hz2 rfl (by decide) _ _ _ rfl (World.ownsRow.alloc HO.out _) ⟨w.heap.size, 0, none⟩ 1 1 [.int .i64 ((k : Int) + 1)] rfl rfl ?a1 ?a2 ?a3 ?a4 ?a5 ?_)
    case a1 =>
      intro t u hj
      match t, hj with
      | 0, hj => simp at hj; subst hj; simp [Addr.add]
    case a2 => intro u hu; simp at hu; subst hu; rfl
    case a3 => unfold maxLen; omega
    case a4 => omega
    case a5 => simp; omega
    · intro v1 w1 hown1 hgrow1 _ hob1
      have hG1 : Grew w w1 v v1 := Grew.alloc _ ⟨hgrow1, by rcases hob1 with h | h; exact Or.inl h; exact Or.inr ⟨_, h, by simp⟩⟩
      have HG1 : Hid (Grew w w1 v v1) := hG1
      have HO1 : Hid (w1.ownsRow base 3 1 v1 (l ++ [k + 1]).length (pcells (l ++ [k + 1]))) := by
        show w1.ownsRow _ _ _ _ _ _
        rw [pcells_snoc, List.length_append]
        exact hown1
      have hb1 : base ≤ w1.heap.size := Nat.le_trans hbase hG1.fr.size
      clear hown1 hgrow1 hob1 hG1 hm
      go_upto_region 3 with fail
      go_wp2_with (at_builtin; refine wpList_append_own_at _ rfl _ _ 57 rfl base 3 i0 (.int .i64 0) 1 8 Tryd.underlying57 hi hz0 hz1 hz2 rfl (by decide) _ _ _ rfl (World.ownsRow.alloc HO1.out _) ⟨w1.heap.size, 0, none⟩ 1 1 [.int .i64 (k : Int)] rfl rfl ?b1 ?b2 ?b3 ?b4 ?b5 ?_)
      case b1 =>
        intro t u hj
        match t, hj with
        | 0, hj => simp at hj; subst hj; simp [Addr.add]
      case b2 => intro u hu; simp at hu; subst hu; rfl
      case b3 => unfold maxLen; simp; omega
      case b4 => simp; omega
      case b5 => simp; omega
      · intro v2 w2 hown2 hgrow2 _ hob2
        have HG2 : Hid (Grew w1 w2 v1 v2) := Grew.alloc _ ⟨hgrow2, by rcases hob2 with h | h; exact Or.inl h; exact Or.inr ⟨_, h, by simp⟩⟩
        have HO2 : Hid (w2.ownsRow base 3 1 v2 (reachP p l k).length (pcells (reachP p l k))) := by
          show w2.ownsRow _ _ _ _ _ _
          rw [HRP.out, pcells_snoc, List.length_append, List.length_append]
          exact hown2
        clear hown2 hgrow2 hob2
        go_wp2
        go_ret
        exact ⟨_, rfl, HO2.out, HG1.out.trans HG2.out⟩
  · have ha' : an p k = false := by simpa using ha
    rw [ha'] at hm
    have HRP : Hid _ := reachP_no ha' l
    go_enter Tryd.func26, Tryd.ntmps26
    go_upto_region 3 with fail
    go_wp2_with (at_builtin; refine wpList_append_own_at _ rfl _ _ 57 rfl base 3 i0 (.int .i64 0) 1 8 Tryd.underlying57 hi hz0 hz1 hz2 rfl (by decide) _ _ _ rfl (World.ownsRow.alloc HO.out _) ⟨w.heap.size, 0, none⟩ 1 1 [.int .i64 (k : Int)] rfl rfl ?d1 ?d2 ?d3 ?d4 ?d5 ?_)
    case d1 =>
      intro t u hj
      match t, hj with
      | 0, hj => simp at hj; subst hj; simp [Addr.add]
    case d2 => intro u hu; simp at hu; subst hu; rfl
    case d3 => unfold maxLen; omega
    case d4 => omega
    case d5 => simp; omega
    · intro v2 w2 hown2 hgrow2 _ hob2
      have HG2 : Hid (Grew w w2 v v2) := Grew.alloc _ ⟨hgrow2, by rcases hob2 with h | h; exact Or.inl h; exact Or.inr ⟨_, h, by simp⟩⟩
      have HO2 : Hid (w2.ownsRow base 3 1 v2 (reachP p l k).length (pcells (reachP p l k))) := by
        show w2.ownsRow _ _ _ _ _ _
        rw [HRP.out, pcells_snoc, List.length_append]
        exact hown2
      clear hown2 hgrow2 hob2
      go_wp2
      go_ret
      exact ⟨_, rfl, HO2.out, HG2.out⟩
end Go.Proofs.YtpckadpnedfkkaaDoor
