import Derived.Test.YtencjopnbmbhkaaGreatPhD
namespace Go.Proofs.YtencjopnbmbhkaaGreat
open Go.RowKit Go.Maps
set_option linter.unusedVariables false
set_option linter.unusedSimpArgs false
theorem eM_rename (args : Array Value) (w : World) : (callFunc 71 args).run Tryz.prog w = .ok (.enter 71 args) w := by kernel_rfl
theorem eM_remove (args : Array Value) (w : World) : (callFunc 72 args).run Tryz.prog w = .ok (.enter 72 args) w := by kernel_rfl
theorem cell1 {W : World} {b T : Nat} {v : Value} (h : W.heap[b]? = some (.cells #[v] T)) : W.cell? ⟨b, 0, none⟩ = some v := by rw [cell_of_row _ _ _ _ _ _ h]; rfl
set_option maxHeartbeats 1000000 in
theorem Rename1_any (g b0 b1 b2 b3 T0 T1 T2 T3 fbk : Nat) (n t : ByteArray) (Po : World → Prop) (w : World) (h0 : w.heap[b0]? = some (.cells #[ptr (some g)] T0)) (h1 : w.heap[b1]? = some (.cells #[.string n] T1)) (h2 : w.heap[b2]? = some (.cells #[.string t] T2)) (h3 : w.heap[b3]? = some (.cells #[ptr (some fbk)] T3)) (hc : Calls Tryz.prog 66 #[ptr (some g), .agg #[.string n, .string t, ptr (some fbk)]] w fun e w' => e = .returned (.tuple #[]) ∧ Po w') :
    Calls Tryz.prog 71 #[.pointer (some ⟨b0, 0, none⟩), .pointer (some ⟨b1, 0, none⟩), .pointer (some ⟨b2, 0, none⟩), .pointer (some ⟨b3, 0, none⟩)] w fun e w' => e = .returned (.tuple #[]) ∧ Po w' := by
  have c0 := cell1 h0
  have c1 := cell1 h1
  have c2 := cell1 h2
  have c3 := cell1 h3
  have HC : Hid _ := hc
  clear hc h0 h1 h2 h3
  unfold ptr at c0 c3 HC
  go_enter Tryz.func71, Tryz.ntmps71
  go_wp2_with fail
  refine (show Calls _ _ _ _ _ from HC.out).mono ?_
  rintro e w1 ⟨rfl, hp⟩
  go_wp2
  go_end0
  exact ⟨rfl, hp⟩
set_option maxHeartbeats 1000000 in
theorem Remove1_any (g b0 b1 b2 T0 T1 T2 fbk : Nat) (n : ByteArray) (Po : World → Prop) (w : World) (h0 : w.heap[b0]? = some (.cells #[ptr (some g)] T0)) (h1 : w.heap[b1]? = some (.cells #[.string n] T1)) (h2 : w.heap[b2]? = some (.cells #[ptr (some fbk)] T2)) (hc : Calls Tryz.prog 66 #[ptr (some g), .agg #[.string n, .string ⟨#[]⟩, ptr (some fbk)]] w fun e w' => e = .returned (.tuple #[]) ∧ Po w') :
    Calls Tryz.prog 72 #[.pointer (some ⟨b0, 0, none⟩), .pointer (some ⟨b1, 0, none⟩), .pointer (some ⟨b2, 0, none⟩)] w fun e w' => e = .returned (.tuple #[]) ∧ Po w' := by
  have c0 := cell1 h0
  have c1 := cell1 h1
  have c2 := cell1 h2
  have HC : Hid _ := hc
  clear hc h0 h1 h2
  unfold ptr at c0 c2 HC
  go_enter Tryz.func72, Tryz.ntmps72
  go_wp2_with fail
  refine (show Calls _ _ _ _ _ from HC.out).mono ?_
  rintro e w1 ⟨rfl, hp⟩
  go_wp2
  go_end0
  exact ⟨rfl, hp⟩
/-- What change leaves of a file system. -/
def ChgF (g : Nat) (X : Gh) (F : Fs) (c : Ch) (i : Nat) (w w' : World) : Prop := ∃ cv', FsP w' g { X with cv := cv', cf := X.cf ++ [i] } (changeM F c) ∧ ModP (Own g F X) w w' ∧ ∀ k, Own g (changeM F c) { X with cv := cv', cf := X.cf ++ [i] } k → Own g F X k ∨ k = X.fb i ∨ (X.pv i).ownBlock = some k ∨ w.heap.size ≤ k
/-- .. of a file that is there. -/
theorem ChgF.bec {g : Nat} {X : Gh} {F F1 : Fs} {c : Ch} {i : Nat} {W w1 w' : World} (h : ChgF g X F1 c i w1 w') (hl : Live F X i) (hL : ∀ j, Live F1 X j ↔ Live F X j) (hm : ModP (Own g F X) W w1) : ∃ X', Bec W g X F w' X' (changeM F1 c) := by
  obtain ⟨cv', h1, h2, h3⟩ := h
  have ho : ∀ k, Own g F1 X k ↔ Own g F X k := fun k => by
    unfold Own
    constructor
    · rintro (h | h | h | ⟨j, hj, h⟩ | h | h)
      · exact Or.inl h
      · exact Or.inr (Or.inl h)
      · exact Or.inr (Or.inr (Or.inl h))
      · exact Or.inr (Or.inr (Or.inr (Or.inl ⟨j, (hL j).1 hj, h⟩)))
      · exact Or.inr (Or.inr (Or.inr (Or.inr (Or.inl h))))
      · exact Or.inr (Or.inr (Or.inr (Or.inr (Or.inr h))))
    · rintro (h | h | h | ⟨j, hj, h⟩ | h | h)
      · exact Or.inl h
      · exact Or.inr (Or.inl h)
      · exact Or.inr (Or.inr (Or.inl h))
      · exact Or.inr (Or.inr (Or.inr (Or.inl ⟨j, (hL j).2 hj, h⟩)))
      · exact Or.inr (Or.inr (Or.inr (Or.inr (Or.inl h))))
      · exact Or.inr (Or.inr (Or.inr (Or.inr (Or.inr h))))
  refine ⟨_, h1, hm.andThen h2 (fun j _ hj => (ho j).1 hj), fun k hk => ?_, by simp⟩
  rcases h3 k hk with h | h | h | h
  · exact Or.inl ((ho k).1 h)
  · exact Or.inl (by rw [h]; exact own_file hl)
  · exact Or.inl (Or.inr (Or.inr (Or.inr (Or.inl ⟨i, hl, Or.inr h⟩))))
  · exact Or.inr (Nat.le_trans hm.size h)
/-- A file's name goes. -/
theorem cok_remove {F : Fs} (hd : DOk F.dir F.files.length) {n : ByteArray} (hn : namedM n = true) (i : Nat) : COk F ⟨n, ⟨#[]⟩, -1⟩ i :=
  ⟨Or.inl (show (-1 : Int) < 0 by decide), hn, Or.inl rfl, fun h => absurd rfl h, by
    have e : afterM F.dir ⟨n, ⟨#[]⟩, -1⟩ = boundM F.dir n (-1) := if_pos rfl
    rw [e]; exact hd.del n (by decide)⟩
theorem cok_rename {F : Fs} (hd : DOk F.dir F.files.length) {n t : ByteArray} (hn : namedM n = true) (ht : namedM t = true) {i : Nat} (hi : findM F.dir n = (i : Int)) (hl : i < F.files.length) : COk F ⟨n, t, (i : Int)⟩ i := by
  have h0 : ¬ t.size = 0 := by have := (named_size ht).1; omega
  refine ⟨Or.inr rfl, hn, Or.inr ht, fun _ => rfl, ?_⟩
  have e : afterM F.dir ⟨n, t, (i : Int)⟩ = boundM (boundM F.dir n (-1)) t (i : Int) := if_neg h0
  rw [e]
  obtain ⟨x, hx, e1, e2⟩ := findM_mem (d := F.dir) (n := n) (by omega)
  have hd1 := hd.del n (f := -1) (by decide)
  refine hd1.put ht (by omega) (by omega) (fun y hy _ e3 => ?_) (Or.inl ?_)
  · rw [bound_del (by decide)] at hy
    obtain ⟨hy1, hy2⟩ := List.mem_filter.1 hy
    have hne : y ≠ x := fun e4 => by subst e4; simp [e1] at hy2
    exact pair_ne hd.uni hy1 hx hne (by omega)
  · rw [bound_del (by decide)]
    have h1 := hd.few
    have : (F.dir.filter fun x => decide (x.1 ≠ n)).length < F.dir.length := by
      have h2 := List.length_filter_lt_length_iff_exists (p := fun x : Sl => decide (x.1 ≠ n)) (l := F.dir)
      exact h2.2 ⟨x, hx, by simp [e1]⟩
    omega
end Go.Proofs.YtencjopnbmbhkaaGreat
