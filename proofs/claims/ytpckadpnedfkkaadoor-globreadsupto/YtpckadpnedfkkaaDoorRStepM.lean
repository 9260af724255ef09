import Derived.Test.YtpckadpnedfkkaaDoorRLaws
import Derived.Test.YtpckadpnedfkkaaDoorGStep
import Derived.Great.BuildSlice
namespace Go.Proofs.YtpckadpnedfkkaaDoor
open Go.RowKit Gb
set_option linter.unusedVariables false
theorem sc_0 (a b : Bool) (c : UInt8) (f : UInt8 → Bool) : (sc a b c f)[0]? = some (.bool a) := by unfold sc; rw [Array.getElem?_append_left (by show 0 < 3; omega)]; rfl
theorem sc_1 (a b : Bool) (c : UInt8) (f : UInt8 → Bool) : (sc a b c f)[1]? = some (.bool b) := by unfold sc; rw [Array.getElem?_append_left (by show 1 < 3; omega)]; rfl
theorem sc_2 (a b : Bool) (c : UInt8) (f : UInt8 → Bool) : (sc a b c f)[2]? = some (.int .u8 (c.toNat : Int)) := by unfold sc; rw [Array.getElem?_append_left (by show 2 < 3; omega)]; rfl
theorem sc_3 (a b : Bool) (c : UInt8) (f : UInt8 → Bool) (k : Nat) (hk : k < 256) : (sc a b c f)[3 + k]? = some (.bool (f (UInt8.ofNat k))) := by
  unfold sc
  rw [Array.getElem?_append_right (by show 3 ≤ 3 + k; omega), show 3 + k - (#[Value.bool a, Value.bool b, Value.int .u8 (c.toNat : Int)] : Array Value).size = k by show 3 + k - 3 = k; omega]
  exact bt_at f k hk
theorem sc_ext {cs : Array Value} {a b : Bool} {c : UInt8} {f : UInt8 → Bool} (hs : cs.size = 259) (h0 : cs[0]? = some (.bool a)) (h1 : cs[1]? = some (.bool b)) (h2 : cs[2]? = some (.int .u8 (c.toNat : Int))) (h3 : ∀ k, k < 256 → cs[3 + k]? = some (.bool (f (UInt8.ofNat k)))) : cs = sc a b c f := by
  apply Array.ext_getElem?
  intro k
  by_cases hk : k < 259
  · rcases (by omega : k = 0 ∨ k = 1 ∨ k = 2 ∨ 3 ≤ k) with e | e | e | e
    · subst e; rw [h0, sc_0]
    · subst e; rw [h1, sc_1]
    · subst e; rw [h2, sc_2]
    · obtain ⟨j, rfl⟩ : ∃ j, k = 3 + j := ⟨k - 3, by omega⟩
      rw [h3 j (by omega), sc_3 _ _ _ _ j (by omega)]
  · rw [Array.getElem?_eq_none (by omega), Array.getElem?_eq_none (by rw [sc_size]; omega)]
theorem sc_set0 (a b : Bool) (c : UInt8) (f : UInt8 → Bool) (x : Bool) : (sc a b c f).setIfInBounds 0 (.bool x) = sc x b c f := by
  apply sc_ext (by simp [sc_size])
  · rw [Array.getElem?_setIfInBounds, sc_size]; rfl
  · rw [Array.getElem?_setIfInBounds, if_neg (by decide), sc_1]
  · rw [Array.getElem?_setIfInBounds, if_neg (by decide), sc_2]
  · intro k hk; rw [Array.getElem?_setIfInBounds, if_neg (by omega), sc_3 _ _ _ _ k hk]
theorem sc_set1 (a b : Bool) (c : UInt8) (f : UInt8 → Bool) (x : Bool) : (sc a b c f).setIfInBounds 1 (.bool x) = sc a x c f := by
  apply sc_ext (by simp [sc_size])
  · rw [Array.getElem?_setIfInBounds, if_neg (by decide), sc_0]
  · rw [Array.getElem?_setIfInBounds, sc_size]; rfl
  · rw [Array.getElem?_setIfInBounds, if_neg (by decide), sc_2]
  · intro k hk; rw [Array.getElem?_setIfInBounds, if_neg (by omega), sc_3 _ _ _ _ k hk]
theorem sc_set2 (a b : Bool) (c : UInt8) (f : UInt8 → Bool) (x : UInt8) : (sc a b c f).setIfInBounds 2 (.int .u8 (x.toNat : Int)) = sc a b x f := by
  apply sc_ext (by simp [sc_size])
  · rw [Array.getElem?_setIfInBounds, if_neg (by decide), sc_0]
  · rw [Array.getElem?_setIfInBounds, if_neg (by decide), sc_1]
  · rw [Array.getElem?_setIfInBounds, sc_size]; rfl
  · intro k hk; rw [Array.getElem?_setIfInBounds, if_neg (by omega), sc_3 _ _ _ _ k hk]
theorem sc_set3 (a b : Bool) (c : UInt8) (f : UInt8 → Bool) (k : Nat) (hk : k < 256) : (sc a b c f).setIfInBounds (3 + k) (.bool true) = sc a b c (orF f (fun b => b == UInt8.ofNat k)) := by
  apply sc_ext (by simp [sc_size])
  · rw [Array.getElem?_setIfInBounds, if_neg (by omega), sc_0]
  · rw [Array.getElem?_setIfInBounds, if_neg (by omega), sc_1]
  · rw [Array.getElem?_setIfInBounds, if_neg (by omega), sc_2]
  · intro j hj
    rw [Array.getElem?_setIfInBounds, sc_size]
    show _ = some (Value.bool (f (UInt8.ofNat j) || (UInt8.ofNat j == UInt8.ofNat k)))
    rw [ofNat_eq j k hj hk]
    by_cases h : k = j
    · subst h; simp; omega
    · have h' : decide (j = k) = false := by simpa using fun e : j = k => h e.symm
      rw [if_neg (by omega), sc_3 _ _ _ _ j hj, h', Bool.or_false]
def scS (st : St) : Array Value := sc st.any st.set st.one (if st.any then fun _ => false else st.f)
def rcells : List St → List Value
  | [] => []
  | s :: p => (scS s).toList ++ rcells p
theorem scS_len (s : St) : (scS s).toList.length = 259 := by rw [Array.length_toList]; exact sc_size _ _ _ _
theorem rcells_app (p q : List St) : rcells (p ++ q) = rcells p ++ rcells q := by
  induction p with
  | nil => rfl
  | cons s p ih => simp only [List.cons_append, rcells, ih, List.append_assoc]
theorem rcells_snoc (p : List St) (s : St) : rcells (p ++ [s]) = rcells p ++ (scS s).toList := by rw [rcells_app]; simp [rcells]
theorem rcells_at (p : List St) (k : Nat) (s : St) (h : p[k]? = some s) (i : Nat) (hi : i < 259) : (rcells p)[k * 259 + i]? = (scS s)[i]? := by
  induction p generalizing k with
  | nil => simp at h
  | cons a p ih =>
    have ha := scS_len a
    simp only [rcells]
    cases k with
    | zero =>
      have : a = s := by simpa using h
      subst this
      rw [List.getElem?_append_left (by omega)]
      simp
    | succ k =>
      rw [List.getElem?_append_right (by omega), ha, show (k + 1) * 259 + i - 259 = k * 259 + i by omega]
      exact ih k (by simpa using h)
theorem load_sc {w : World} {g : Nat} {a b : Bool} {c : UInt8} {f : UInt8 → Bool} (h : w.heap[g]? = some (.cells (sc a b c f) 51)) : (Instr.loadAt 51 (.pointer (some ⟨g, 0, none⟩))).run Tryd.prog w = .ok (.agg (sc a b c f)) w := by
  simp only [Instr.loadAt, Instr.sureAddr, Sem.run_bind, Sem.run_pure, Result.andThen]
  exact run_loadVar_row w g 51 51 (sc a b c f) (0, 0) _ h Tryd.underlying51 rfl (by rw [sc_size]; exact (zero_of_info infoT).2)
theorem store_zero (w : World) : (Instr.storeAt 51 (.pointer (some ⟨w.heap.size, 0, none⟩)) (.agg Z51)).run Tryd.prog (w.alloc (.cells Z51 51)) = .ok () (w.alloc (.cells Z51 51)) :=
  run_storeAt_new w 51 Z51 Z51 (by unfold Z51; rw [sc_size]; exact (zero_of_info infoT).2) rfl (sc_one _ _ _ _)
theorem infoR : (Tryd.prog.info? 51).map (fun i => (i.zero, i.size, i.bytes)) = some (some (.agg Z51), 259, 259) := by kernel_rfl
theorem fill_one {n : Nat} (hn : n = 259) (z : Array Value) (a b : Bool) (c : UInt8) (f : UInt8 → Bool) : Instr.fill (fun i => some (i * n, n)) ((Array.range (1 * n)).map (z[· % z.size]!)) [(0, .agg (sc a b c f))] = some (sc a b c f) := by
  subst hn
  have h1 : ∀ v ∈ [Value.agg (sc a b c f)], v.cells.size = 259 := by
    intro v hv
    have hv' : v = .agg (sc a b c f) := by simpa using hv
    subst hv'
    exact sc_size _ _ _ _
  have := Go.Great.fill_whole (s := 259) (by decide) [.agg (sc a b c f)] ((Array.range (1 * 259)).map (z[· % z.size]!)) h1 (by simp)
  have e : ([Value.agg (sc a b c f)].flatMap fun v => v.cells.toList).toArray = sc a b c f := by simp [Value.cells]
  rw [e] at this
  exact this
theorem store_from (g o : Nat) (t : TypeId) (vs : List Value) : ∀ (i : Nat) (cur : Array Value) (w : World), w.heap[g]? = some (.cells cur t (0, 0)) → o + i + vs.length ≤ cur.size → (∀ v ∈ vs, v.oneCell' = true) →
    ∃ cur' w', (storeCells ⟨g, o, none⟩ vs i).run Tryd.prog w = .ok () w' ∧ w'.heap[g]? = some (.cells cur' t (0, 0)) ∧ cur'.size = cur.size ∧ (∀ k, cur'[k]? = if o + i ≤ k ∧ k < o + i + vs.length then vs[k - (o + i)]? else cur[k]?) ∧ Only w w' g := by
  induction vs with
  | nil =>
    intro i cur w hg hl h1
    exact ⟨cur, w, rfl, hg, rfl, fun k => by rw [if_neg (by simp)], Only.refl _ _⟩
  | cons v vs ih =>
    intro i cur w hg hl h1
    have hlen : o + i < cur.size := by simp at hl; omega
    have hadd : (⟨g, o, none⟩ : Addr).add i = ⟨g, o + i, none⟩ := by unfold Addr.add; split <;> simp_all
    have hst : (store (⟨g, o + i, none⟩ : Addr) v).run Tryd.prog w = .ok () (w.setCell ⟨g, o + i, none⟩ v) := by
      have hc : w.cell? ⟨g, o + i, none⟩ = some cur[o + i] := by rw [cell_of_row _ _ _ _ _ _ hg]; exact Array.getElem?_eq_getElem hlen
      have hf : w.frozen? ⟨g, o + i, none⟩ = false := frozen_of_row _ _ _ _ _ hg
      rw [run_store _ _ _ _ _ (h1 v (by simp)), hc, hf]; rfl
    have hg1 := heap_setCell_same w g (o + i) cur t v hg
    obtain ⟨cur', w', hr, hg', hs, hk, ho⟩ := ih (i + 1) _ _ hg1 (by simp at hl ⊢; omega) (fun u hu => h1 u (by simp [hu]))
    refine ⟨cur', w', ?_, hg', by rw [hs]; simp, fun k => ?_, (Only.set (Only.refl w g) (o + i) v).trans ho⟩
    · unfold storeCells
      rw [hadd]
      simp only [Sem.run_bind, hst, Result.andThen]
      exact hr
    · rw [hk k, Array.getElem?_setIfInBounds]
      by_cases e : k = o + i
      · subst e
        rw [if_neg (by omega), if_pos rfl, if_pos hlen, if_pos (by simp)]
        simp
      · by_cases h2 : o + i + 1 ≤ k ∧ k < o + i + 1 + vs.length
        · rw [if_pos (by omega), if_pos (by simp; omega)]
          obtain ⟨m, hm⟩ : ∃ m, k - (o + i) = m + 1 := ⟨k - (o + i) - 1, by omega⟩
          rw [hm, List.getElem?_cons_succ]
          congr 1; omega
        · rw [if_neg (by omega), if_neg (fun x => e x.symm), if_neg (by simp; omega)]
theorem store_in {w : World} {g : Nat} {a b : Bool} {c : UInt8} {f : UInt8 → Bool} (f' : UInt8 → Bool) (h : w.heap[g]? = some (.cells (sc a b c f) 51)) :
    ∃ w', (storeCells ⟨g, 3, none⟩ (bt f').toList 0).run Tryd.prog w = .ok () w' ∧ w'.heap[g]? = some (.cells (sc a b c f') 51) ∧ Only w w' g := by
  have hl : (bt f').toList.length = 256 := by rw [Array.length_toList, bt_size]
  obtain ⟨cur', w', hr, hg, hs, hk, ho⟩ := store_from g 3 51 (bt f').toList 0 (sc a b c f) w h (by rw [hl, sc_size]; omega) (fun v hv => (Array.all_eq_true_iff_forall_mem.1 (bt_one f')) v (by simpa using hv))
  refine ⟨w', hr, ?_, ho⟩
  have e : cur' = sc a b c f' := by
    apply sc_ext (by rw [hs, sc_size])
    · rw [hk 0, if_neg (by omega), sc_0]
    · rw [hk 1, if_neg (by omega), sc_1]
    · rw [hk 2, if_neg (by omega), sc_2]
    · intro k hk8
      rw [hk (3 + k), if_pos (by rw [hl]; omega), show 3 + k - (3 + 0) = k by omega, Array.getElem?_toList]
      exact bt_at f' k hk8
  rw [← e]; exact hg
end Go.Proofs.YtpckadpnedfkkaaDoor
