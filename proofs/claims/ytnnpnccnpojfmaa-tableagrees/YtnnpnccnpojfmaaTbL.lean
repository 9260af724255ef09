import Derived.Test.YtnnpnccnpojfmaaTbC
namespace Go.Proofs.Ytnnpnccnpojfmaa
open Go.RowKit
set_option linter.unusedVariables false
set_option linter.unusedSimpArgs false
theorem heap_setCell_mark (w : World) (g i : Nat) (cs : Array Value) (t : TypeId) (fr : Nat × Nat) (v : Value) (hg : w.heap[g]? = some (.cells cs t fr)) :
    (w.setCell ⟨g, i, none⟩ v).heap[g]? = some (.cells (cs.setIfInBounds i v) t fr) := by
  simp only [World.setCell, Array.getElem?_modify]
  simp [hg]
def midB (f : UInt8 → UInt8) (l : List UInt8) (k j : Nat) : UInt8 := if j < k then f (l.getD j 0) else l.getD j 0
theorem getD_at (s : ByteArray) (k : Nat) (h : k < s.size) : s.data.toList.getD k 0 = s[k] := by
  rw [List.getD_eq_getElem?_getD, at_list s k h]; rfl
structure FoldR (f : UInt8 → UInt8) (w wr : World) (s : ByteArray) (k N : Nat) : Prop where
  row : ∃ cs, wr.heap[w.heap.size]? = some (.cells cs 5 (N, N + 1)) ∧ ∀ j, j < s.size → cs[j]? = some (.int .u8 ((midB f s.data.toList k j).toNat : Int))
  big : s.size ≤ N
  bel : Below w.heap.size w wr
theorem FoldR.cell {f : UInt8 → UInt8} {w wr : World} {s : ByteArray} {k N : Nat} (h : FoldR f w wr s k N) (j : Nat) (hj : j < s.size) : wr.cell? ⟨w.heap.size, j, none⟩ = some (.int .u8 ((midB f s.data.toList k j).toNat : Int)) := by
  obtain ⟨cs, h1, h2⟩ := h.row
  rw [cell_of_row _ _ _ _ _ _ h1]; exact h2 j hj
theorem FoldR.free {f : UInt8 → UInt8} {w wr : World} {s : ByteArray} {k N : Nat} (h : FoldR f w wr s k N) (j : Nat) (hj : j < s.size) : wr.frozen? ⟨w.heap.size, j, none⟩ = false := by
  obtain ⟨cs, h1, h2⟩ := h.row
  have := h.big
  unfold World.frozen?
  rw [h1]
  simp; omega
theorem mid_k (f : UInt8 → UInt8) (l : List UInt8) (k : Nat) : midB f l k k = l.getD k 0 := by unfold midB; rw [if_neg (by omega)]
theorem mid_succ (f : UInt8 → UInt8) (l : List UInt8) (k j : Nat) : midB f l (k + 1) j = if j = k then f (l.getD k 0) else midB f l k j := by
  unfold midB
  by_cases h : j = k
  · subst h; rw [if_pos (by omega), if_pos rfl]
  · rw [if_neg h]
    by_cases h2 : j < k
    · rw [if_pos (by omega), if_pos h2]
    · rw [if_neg (by omega), if_neg h2]
theorem FoldR.same {f : UInt8 → UInt8} {w wr : World} {s : ByteArray} {k N : Nat} (h : FoldR f w wr s k N) (hk : f (s.data.toList.getD k 0) = s.data.toList.getD k 0) : FoldR f w wr s (k + 1) N := by
  obtain ⟨cs, h1, h2⟩ := h.row
  refine ⟨⟨cs, h1, fun j hj => ?_⟩, h.big, h.bel⟩
  rw [h2 j hj, mid_succ]
  by_cases e : j = k
  · subst e; rw [if_pos rfl, mid_k, hk]
  · rw [if_neg e]
theorem FoldR.set {f : UInt8 → UInt8} {w wr : World} {s : ByteArray} {k N : Nat} (h : FoldR f w wr s k N) (hk : k < s.size) (x : Int) (hx : x = ((f (s.data.toList.getD k 0)).toNat : Int)) : FoldR f w (wr.setCell ⟨w.heap.size, k, none⟩ (.int .u8 x)) s (k + 1) N := by
  obtain ⟨cs, h1, h2⟩ := h.row
  refine ⟨⟨_, heap_setCell_mark _ _ _ _ _ _ _ h1, fun j hj => ?_⟩, h.big, ?_⟩
  · rw [Array.getElem?_setIfInBounds, mid_succ]
    by_cases e : k = j
    · subst e
      have := h2 k hj
      have hlt := (Array.getElem?_eq_some_iff.1 this).1
      rw [if_pos rfl, if_pos hlt, if_pos rfl, hx]
    · rw [if_neg e, if_neg (fun x => e x.symm)]; exact h2 j hj
  · refine h.bel.trans ⟨rfl, rfl, rfl, by simp, fun j hj => heap_setCell_other _ _ _ _ (by show j ≠ w.heap.size; omega)⟩
theorem FoldR.start (f : UInt8 → UInt8) (w : World) (s : ByteArray) : FoldR f w (w.drew.alloc (.cells (bytesRow s (grownCap w s.size 0 5)) 5 ((bytesRow s (grownCap w s.size 0 5)).size, (bytesRow s (grownCap w s.size 0 5)).size + 1))) s 0 (bytesRow s (grownCap w s.size 0 5)).size := by
  refine ⟨⟨_, heap_alloc_new w.drew _, fun j hj => ?_⟩, ?_, ?_⟩
  · rw [bytesRow_at s _ j hj]
    unfold midB
    rw [if_neg (by omega), getD_at s j hj]; rfl
  · unfold bytesRow; rw [Array.size_append]; simp
  · go_grown
theorem fold_at (f : UInt8 → UInt8) (l : List UInt8) (j : Nat) (h : j < (l.map f).length) : (l.map f)[j] = f (l.getD j 0) := by
  have hl : j < l.length := by rwa [List.length_map] at h
  have e : (l.map f)[j]? = some (f (l.getD j 0)) := by
    rw [List.getElem?_map, List.getD_eq_getElem?_getD, List.getElem?_eq_getElem hl]; rfl
  exact (List.getElem?_eq_some_iff.1 e).2
theorem FoldR.back {f : UInt8 → UInt8} {w wr : World} {s : ByteArray} {N : Nat} (h : FoldR f w wr s s.size N) (cap : Nat) : Sem.run Try.prog (convert 48 9 (.slice (some ⟨w.heap.size, 0, none⟩) s.size cap)) wr = .ok (.string (strB (s.data.toList.map f))) wr := by
  have hl : (s.data.toList.map f).length = s.size := by rw [List.length_map, list_len]
  have := run_convert_bytes_back (P := Try.prog) wr 48 9 5 ⟨w.heap.size, 0, none⟩ cap (s.data.toList.map f) Try.underlying48 Try.underlying5 Try.underlying9 ?_
  · rw [hl] at this; exact this
  · intro j hj
    have e : (⟨w.heap.size, 0, none⟩ : Addr).add j = ⟨w.heap.size, j, none⟩ := by unfold Addr.add; split <;> simp_all
    rw [hl] at hj
    rw [e, h.cell j hj]
    rw [fold_at]
    unfold midB
    rw [if_pos hj]
theorem low_of {c : UInt8} (h1 : 65 ≤ c.toNat) (h2 : c.toNat ≤ 90) : (TB.low1 c).toNat = c.toNat + 32 := by
  unfold TB.low1
  rw [if_pos ⟨h1, h2⟩]
  simp; omega
theorem low_not {c : UInt8} (h : ¬ (65 ≤ c.toNat ∧ c.toNat ≤ 90)) : TB.low1 c = c := by
  unfold TB.low1
  rw [if_neg h]
set_option maxHeartbeats 2000000 in
set_option maxRecDepth 20000 in
theorem lower_any (s : ByteArray) (hm : s.size ≤ 140737488355328) (w : World) :
    Calls Try.prog 13 #[.string s] w fun e w' => e = .returned (.string (strB (TB.low s.data.toList))) ∧ Below w.heap.size w w' := by
  have hcv := run_bytes_of_string (P := Try.prog) w 9 48 5 s Try.underlying9 Try.underlying48 Try.underlying5
  have HS : Hid _ := FoldR.start TB.low1 w s
  obtain ⟨N, hN⟩ : ∃ N, (bytesRow s (grownCap w s.size 0 5)).size = N := ⟨_, rfl⟩
  rw [hN] at HS hcv
  go_enter Try.func13, Try.ntmps13
  go_wp2
  go_loopw [4, 5, 10] (fun _ _ i wr => ∃ k : Nat, i = .int .i64 (k : Int) ∧ k ≤ s.size ∧ FoldR TB.low1 w wr s k N) (fun _ _ i _ => s.size - (intOf i).toNat)
  case atStart => exact ⟨0, rfl, Nat.zero_le _, HS.out⟩
  case round =>
    obtain ⟨k, rfl, hk, hR⟩ := hrel
    have HR : Hid (FoldR TB.low1 w wr s k N) := hR
    clear hcv
    by_cases hlt : k < s.size
    · have hc := hR.cell k hlt
      have hf := hR.free k hlt
      rw [mid_k] at hc
      clear hR
      obtain ⟨b, hb⟩ : ∃ b, s.data.toList.getD k 0 = b := ⟨_, rfl⟩
      have hb8 := b.toNat_lt
      rw [hb] at hc
      obtain ⟨c, ec⟩ : ∃ c, b.toNat = c := ⟨_, rfl⟩
      rw [ec] at hc hb8
      by_cases h1 : 65 ≤ c
      · by_cases h2 : c ≤ 90
        · have HX : Hid (FoldR TB.low1 w (wr.setCell ⟨w.heap.size, k, none⟩ (.int .u8 ((c : Int) - 65 + 97))) s (k + 1) N) := HR.out.set hlt _ (by rw [hb, low_of (by omega) (by omega)]; omega)
          go_wp2
          go_roundw
          case rel => exact ⟨k + 1, by go_num, hlt, HX.out⟩
          case measure => simp [intOf]; omega
        · have HX : Hid (FoldR TB.low1 w wr s (k + 1) N) := HR.out.same (by rw [hb]; exact low_not (by omega))
          go_wp2
          go_roundw
          case rel => exact ⟨k + 1, by go_num, hlt, HX.out⟩
          case measure => simp [intOf]; omega
      · have HX : Hid (FoldR TB.low1 w wr s (k + 1) N) := HR.out.same (by rw [hb]; exact low_not (by omega))
        go_wp2
        go_roundw
        case rel => exact ⟨k + 1, by go_num, hlt, HX.out⟩
        case measure => simp [intOf]; omega
    · have hke : k = s.size := by omega
      subst hke
      have hbk := hR.back (grownCap w s.size 0 5)
      clear hR
      go_wp2
      go_ret
      exact ⟨rfl, HR.out.bel⟩
end Go.Proofs.Ytnnpnccnpojfmaa
