import Derived.Test.YtnfbaeajalnmmaaGreatDoorNum4
import Derived.Test.YtnfbaeajalnmmaaGreatDoorGD
import Derived.Lib.Builder
import Derived.Lib.MakeNoZero
import Derived.Lib.UnsafeStr
import Derived.Laws.Externs
import Derived.Laws.IdiomCopy
namespace Go.Proofs.YtnfbaeajalnmmaaGreatDoor
open Go.RowKit
set_option linter.unusedVariables false
/-- what is no row of bytes, and not the block b, stands as it stood. -/
def Kept (b : Nat) (w w' : World) : Prop := ∀ (k : Nat) (cs : Array Value) (T : TypeId) (fr : Nat × Nat), w.heap[k]? = some (.cells cs T fr) → k ≠ b → T ≠ 5 → w'.heap[k]? = some (.cells cs T fr)
theorem Kept.trans {b : Nat} {a c d : World} (h : Kept b a c) (h2 : Kept b c d) : Kept b a d := fun k cs T fr e hk hT => h2 k cs T fr (h k cs T fr e hk hT) hk hT
theorem Kept.below {b : Nat} {w w' : World} (h : Below w.heap.size w w') : Kept b w w' := fun k cs T fr e _ _ => by rw [h.block k (row_lt e)]; exact e
structure BK (B b : Nat) (w w' : World) : Prop where
  bel : Below B w w'
  kept : Kept b w w'
theorem BK.trans {B b : Nat} {x y z : World} (h : BK B b x y) (k : BK B b y z) : BK B b x z := ⟨h.bel.trans k.bel, h.kept.trans k.kept⟩
theorem BK.size {B b : Nat} {x y : World} (h : BK B b x y) : x.heap.size ≤ y.heap.size := h.bel.size
theorem BK.refl (B b : Nat) (w : World) : BK B b w w := ⟨Below.refl _ _, fun _ _ _ _ h _ _ => h⟩
theorem BK.of {B b : Nat} {x y : World} (h : Below x.heap.size x y) (hB : B ≤ x.heap.size) : BK B b x y := ⟨h.mono hB, Kept.below h⟩
theorem BK.dn {B b : Nat} {x y : World} (h : BK B b x y) (n : Nat) : BK B b x (y.drewN n) := h.trans ⟨below_dn (Below.refl _ y) n, fun _ _ _ _ h _ _ => h⟩
theorem kept_of {B b : Nat} {w w1 w2 : World} {v v' : Value} {l : List UInt8} (hown : w.ownsRow B 5 1 v l.length (bcells l)) (h1 : ∀ k, k < w.heap.size → k ≠ b → w1.heap[k]? = w.heap[k]?) (hs : w.heap.size ≤ w1.heap.size) (hg : w1.grownBy w2 v.ownBlock) :
    Kept b w (w2.setCell ⟨b, 1, none⟩ v') := by
  intro k cs T fr hk hkb hT
  have hne2 : some k ≠ v.ownBlock := by
    intro e
    rcases hown.2 with ⟨hv, _⟩ | ⟨g2, cap3, cur, hv, _, hg2, _⟩
    · rw [hv] at e; simp [Value.ownBlock] at e
    · rw [hv] at e
      simp [Value.ownBlock] at e
      subst e
      rw [hg2] at hk
      injection hk with hk
      injection hk with _ h2
      exact hT h2.symm
  have hlt := row_lt hk
  have h2 : w2.heap[k]? = some (.cells cs T fr) := by rw [hg.block k (by omega) hne2, h1 k hlt hkb]; exact hk
  simp [World.setCell, Array.getElem?_modify, Ne.symm hkb, h2]
theorem cell_heap {w : World} {b : Nat} {cs : Array Value} {T : TypeId} {fr : Nat × Nat} (hb : w.heap[b]? = some (.cells cs T fr)) (j : Nat) : w.cell? ⟨b, j, none⟩ = cs[j]? := by
  simp [World.cell?, hb]
/-- an encoder in memory: what it has written, and its form. -/
def EnAt (B b : Nat) (p : Int) (l : List UInt8) (w : World) : Prop :=
  B ≤ b ∧ ∃ f v, (f = .pointer none ∨ f = .pointer (some ⟨b, 0, none⟩)) ∧ w.heap[b]? = some (.cells #[f, v, .int .i64 p] 54 (0, 0)) ∧ w.ownsRow B 5 1 v l.length (bcells l)
theorem liesE : liesAt Tryz.prog Tryz.prog.depth 54 (3 / Tryz.prog.cellsOf 54) 0 52 1 = true := by kernel_rfl
theorem sizeE : (Tryz.prog.info? 52).map (·.size) = some 2 := by kernel_rfl
theorem en_ne {B b : Nat} {p : Int} {f v v' : Value} {l : List UInt8} {w : World} (hb : w.heap[b]? = some (.cells #[f, v, .int .i64 p] 54 (0, 0))) (hown : w.ownsRow B 5 1 v' l.length (bcells l)) : v'.ownBlock ≠ some b := by
  intro e
  rcases hown.2 with ⟨h, _⟩ | ⟨g, cap, cur, h, _, hg, _⟩
  · subst h; simp [Value.ownBlock] at e
  · subst h
    simp [Value.ownBlock] at e
    subst e
    rw [hb] at hg
    injection hg with hg
    injection hg with _ h2
    exact absurd h2 (by decide)
theorem EnAt.lt {B b : Nat} {p : Int} {l : List UInt8} {w : World} (h : EnAt B b p l w) : b < w.heap.size := by
  obtain ⟨h0, f, v, hf, h1, h2⟩ := h
  exact row_lt h1
theorem EnAt.on {B b : Nat} {p : Int} {l : List UInt8} {w w' : World} (h : EnAt B b p l w) (hb : Below w.heap.size w w') : EnAt B b p l w' := by
  obtain ⟨h0, f, v, hf, h1, h2⟩ := h
  exact ⟨h0, f, v, hf, keep_row h1 hb, own_on h2 hb⟩
theorem EnAt.proto {B b : Nat} {p : Int} {l : List UInt8} {w : World} (h : EnAt B b p l w) : w.cell? ⟨b, 2, none⟩ = some (.int .i64 p) := by
  obtain ⟨h0, f, v, hf, h1, h2⟩ := h
  rw [cell_heap h1]; rfl
set_option maxHeartbeats 1000000 in
set_option maxRecDepth 100000 in
theorem copyCheck_used (b : Nat) (w : World) (h0 : w.cell? ⟨b, 0, none⟩ = some (.pointer (some ⟨b, 0, none⟩))) :
    Calls Tryz.prog 68 #[.pointer (some ⟨b, 0, none⟩)] w fun e w' => e = .returned (.tuple #[]) ∧ w' = w := by
  obtain ⟨j, hj, _⟩ := Option.map_eq_some_iff.1 sizeE
  go_enter Tryz.func68, Tryz.ntmps68
  go_wp2
  rw [Lib.run_neq_ptr_same w _ Tryz.underlying49 hj]
  go_wp2
  go_end0
  exact ⟨rfl, rfl⟩
set_option maxHeartbeats 1000000 in
set_option maxRecDepth 100000 in
theorem copyCheck_fresh (b : Nat) (w : World) (h0 : w.cell? ⟨b, 0, none⟩ = some (.pointer none)) (hsh : w.shape? b = some (54, 3)) (hfz : w.frozen? ⟨b, 0, none⟩ = false) :
    Calls Tryz.prog 68 #[.pointer (some ⟨b, 0, none⟩)] w fun e w' => e = .returned (.tuple #[]) ∧ w' = w.setCell ⟨b, 0, none⟩ (.pointer (some ⟨b, 0, none⟩)) := by
  obtain ⟨j, hj, hjs⟩ := Option.map_eq_some_iff.1 sizeE
  go_enter Tryz.func68, Tryz.ntmps68
  go_wp2
  rw [Lib.run_to_unsafe w ⟨b, 0, none⟩ Tryz.underlying49 Tryz.underlying117 hj (by rw [hjs]; decide) hsh (show (0 : Nat) < 3 by omega)]
  simp only [Result.andThen]
  rw [Oper.upon_value]
  go_wp2
  rw [run_callFunc_extern Tryz.func82 (by kernel_rfl) (by kernel_rfl) (by kernel_rfl) (e := Extern.AbiNoEscape.same) (by kernel_rfl)]
  rw [Lib.run_noEscape]
  simp only [Result.andThen]
  rw [Oper.upon_value]
  go_wp2
  rw [Lib.run_from_unsafe w ⟨b, 0, none⟩ Tryz.underlying117 Tryz.underlying49 hj hsh liesE]
  simp only [Result.andThen]
  rw [Oper.upon_value]
  go_wp2
  go_end0
  exact ⟨rfl, rfl⟩
/-- copyCheck: then the builder's first cell is its own place. -/
theorem copyCheck_any (B b : Nat) (p : Int) (f v : Value) (l : List UInt8) (w : World) (hf : f = .pointer none ∨ f = .pointer (some ⟨b, 0, none⟩)) (hbk : w.heap[b]? = some (.cells #[f, v, .int .i64 p] 54 (0, 0))) (hown : w.ownsRow B 5 1 v l.length (bcells l)) :
    Calls Tryz.prog 68 #[.pointer (some ⟨b, 0, none⟩)] w fun e w' => e = .returned (.tuple #[]) ∧ w'.heap[b]? = some (.cells #[.pointer (some ⟨b, 0, none⟩), v, .int .i64 p] 54 (0, 0)) ∧ w'.ownsRow B 5 1 v l.length (bcells l) ∧ Only w w' b := by
  rcases hf with rfl | rfl
  · refine (copyCheck_fresh b w (by rw [cell_heap hbk]; rfl) (by simp [World.shape?, hbk]) (Lib.frozen_of_heap hbk 0)).mono ?_
    rintro e w' ⟨rfl, rfl⟩
    have ho : Only w (w.setCell ⟨b, 0, none⟩ (.pointer (some ⟨b, 0, none⟩))) b := (Only.refl _ _).set _ _
    refine ⟨rfl, by rw [heap_setCell_same _ _ _ _ _ _ hbk]; rfl, ?_, ho⟩
    have hn := en_ne hbk hown
    refine ⟨hown.1, ?_⟩
    rcases hown.2 with q | ⟨g, cap, cur, rfl, a1, hr, a2⟩
    · exact Or.inl q
    · exact Or.inr ⟨g, cap, cur, rfl, a1, by rw [ho.other g (fun e => hn (by rw [e]; rfl))]; exact hr, a2⟩
  · refine (copyCheck_used b w (by rw [cell_heap hbk]; rfl)).mono ?_
    rintro e w' ⟨rfl, rfl⟩
    exact ⟨rfl, hbk, hown, Only.refl _ _⟩
theorem en_put {B b : Nat} {p : Int} {v v' : Value} {l : List UInt8} {w : World} (hB : B ≤ b) (hb : w.heap[b]? = some (.cells #[.pointer (some ⟨b, 0, none⟩), v, .int .i64 p] 54 (0, 0))) (hown : w.ownsRow B 5 1 v' l.length (bcells l)) :
    EnAt B b p l (w.setCell ⟨b, 1, none⟩ v') := by
  have hne := en_ne hb hown
  refine ⟨hB, _, v', Or.inr rfl, ?_, ?_⟩
  · simp [World.setCell, Array.getElem?_modify, hb]
  · refine hown.kept (row := some b) ⟨rfl, rfl, rfl, by simp [World.setCell], fun k _ hk => Below.heap_setCell _ _ _ _ (fun e => hk (by simp [e]))⟩ ?_
    exact Or.inr hne
set_option maxHeartbeats 2000000 in
set_option maxRecDepth 100000 in
theorem ws_any (B b : Nat) (p : Int) (l : List UInt8) (s : ByteArray) (w : World) (h : EnAt B b p l w) (hlen : l.length + s.size ≤ 140737488355328) (hBw : B ≤ w.heap.size) :
    Calls Tryz.prog 51 #[.pointer (some ⟨b, 0, none⟩), .string s] w fun e w' => e = .returned (.tuple #[.int .i64 s.size, .nilIface]) ∧ (EnAt B b p (l ++ s.data.toList) w' ∧ BK B b w w') := by
  obtain ⟨i0, hi, hz0, hz1, hz2⟩ := info_parts info5
  obtain ⟨hB, f, v, hf, hbk, hown⟩ := h
  have HC : Hid _ := copyCheck_any B b p f v l w hf hbk hown
  have HW : Hid (w.ownsRow B 5 1 v l.length (bcells l)) := hown
  clear hf hbk hown
  go_enter Tryz.func51, Tryz.ntmps51
  go_wp2_with fail
  refine (show Calls _ _ _ _ _ from HC.out).mono ?_
  rintro e w1 ⟨rfl, hbk, hown, ho⟩
  have HO : Hid (Only w w1 b) := ho
  have hne := en_ne hbk hown
  have c0 : w1.cell? ⟨b, 0, none⟩ = some (.pointer (some ⟨b, 0, none⟩)) := by rw [cell_heap hbk]; rfl
  have c1 : w1.cell? ⟨b, 1, none⟩ = some v := by rw [cell_heap hbk]; rfl
  have hBw1 : B ≤ w1.heap.size := by rw [ho.size]; exact hBw
  clear ho
  go_wp2_with (at_builtin; go_must (refine Lib.wpList_append_own_string _ rfl _ _ 50 9 rfl B 5 i0 Tryz.underlying50 Tryz.underlying9 hi hz0 hz1 hz2 _ _ _ rfl hown s rfl ?c3 ?c4 ?c5 ?_))
  case c3 => unfold maxLen; omega
  case c4 => omega
  case c5 => omega
  intro v' w2 hown' hgrow _
  have hb2 : w2.heap[b]? = some (.cells #[.pointer (some ⟨b, 0, none⟩), v, .int .i64 p] 54 (0, 0)) := by
    rw [hgrow.block b (row_lt hbk) (fun e => hne e.symm)]
    exact hbk
  have d0 : w2.cell? ⟨b, 0, none⟩ = some (.pointer (some ⟨b, 0, none⟩)) := by rw [cell_heap hb2]; rfl
  have d1 : w2.cell? ⟨b, 1, none⟩ = some v := by rw [cell_heap hb2]; rfl
  have f1 : w2.frozen? ⟨b, 1, none⟩ = false := Lib.frozen_of_heap hb2 1
  obtain ⟨ao, n', cap, rfl⟩ : ∃ ao n' cap, v' = .slice ao n' cap := by
    obtain ⟨p, c, e⟩ := own_form hown'
    exact ⟨_, _, _, e⟩
  have HO2 : Hid (w2.ownsRow B 5 1 (.slice ao n' cap) (l ++ s.data.toList).length (bcells (l ++ s.data.toList))) := by
    rw [bcells_str, List.length_append, list_len]; exact hown'
  clear hown'
  go_wp2
  go_ret2
  refine ⟨rfl, en_put hB hb2 HO2.out, ?_, ?_⟩
  · exact (HO.out.below hB).trans (((Below.refl B w1).grown hgrow hBw1 (fun k hk => (hown.lt k hk).1)).setCell (p := ⟨b, 1, none⟩) hB _)
  · exact kept_of HW.out (fun k _ hk => HO.out.other k hk) (by rw [HO.out.size]; exact Nat.le_refl _) hgrow
set_option maxHeartbeats 2000000 in
set_option maxRecDepth 100000 in
theorem str_any (B b : Nat) (p : Int) (l : List UInt8) (w : World) (h : EnAt B b p l w) (h0 : l ≠ []) :
    Calls Tryz.prog 17 #[.pointer (some ⟨b, 0, none⟩)] w fun e w' => e = .returned (.string (strB l)) ∧ Below B w w' := by
  obtain ⟨hB, f, v, hf, hbk, hown⟩ := h
  have hl0 : l.length ≠ 0 := by simpa using h0
  obtain ⟨g, cap, cur, rfl, hbg, hg, hnc, hcm, hcs, htake⟩ : ∃ g cap cur, v = .slice (some ⟨g, 0, none⟩) l.length cap ∧ B ≤ g ∧ w.heap[g]? = some (.cells cur 5 (0, 0)) ∧ l.length ≤ cap ∧ cap ≤ maxLen ∧ cur.size = cap * 1 ∧ cur.toList.take (l.length * 1) = bcells l := by
    rcases hown.2 with ⟨_, hz⟩ | ⟨g, cap, cur, hv, r⟩
    · exact absurd hz hl0
    · exact ⟨g, cap, cur, hv, r⟩
  have c1 : w.drew.cell? ⟨b, 1, none⟩ = some (.slice (some ⟨g, 0, none⟩) l.length cap) := by
    have : w.drew.heap[b]? = some (.cells #[f, .slice (some ⟨g, 0, none⟩) l.length cap, .int .i64 p] 54 (0, 0)) := hbk
    rw [cell_heap this]; rfl
  have hSD : (Builtin.unsafeSliceData_ #[50] 76 #[.slice (some ⟨g, 0, none⟩) l.length cap]).run Tryz.prog w.drew = .ok (.pointer (some ⟨g, 0, none⟩)) w.drew :=
    Lib.run_unsafeSliceData_row _ _ _ _ _ _ (by omega)
  have hUS : (Builtin.unsafeString_ #[76, 3] 9 #[.pointer (some ⟨g, 0, none⟩), .int .i64 l.length]).run Tryz.prog w.drew = .ok (.string (strB l)) (w.drew.freeze ⟨g, 0, none⟩ l.length) := by
    refine Lib.run_unsafeString_row w.drew 76 3 9 5 Tryz.underlying76 (by kernel_rfl) g cur.size (by have hg' : w.drew.heap[g]? = some (.cells cur 5 (0, 0)) := hg; simp [World.shape?, hg']) l h0 (by omega) (by unfold maxLen at hcm; omega) ?_
    intro j x hx
    have := hown.cells (g := g) rfl j (.int .u8 x.toNat) (by simp [bcells, hx])
    exact this
  clear htake hown hf
  go_enter Tryz.func17, Tryz.ntmps17
  go_wp2
  go_region
  all_goals (go_wp2; go_ret; exact ⟨rfl, Lib.below_freeze (Below.drew (Below.refl B w)) (p := ⟨g, 0, none⟩) hbg _⟩)
end Go.Proofs.YtnfbaeajalnmmaaGreatDoor
