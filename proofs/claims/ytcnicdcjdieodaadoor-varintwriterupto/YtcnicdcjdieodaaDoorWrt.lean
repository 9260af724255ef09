import Derived.Test.YtcnicdcjdieodaaDoorRdr
import Derived.Lib.AppendStr
namespace Go.Proofs.YtcnicdcjdieodaaDoor
open Go.RowKit Vi
set_option linter.unusedVariables false

def bcells (l : List UInt8) : List Value := l.map fun b => Value.int .u8 (b.toNat : Int)
/-- a Writer's block, and the bytes that are its own. -/
structure WrV (w : World) (b : Nat) (lim : Nat) (l : List UInt8) (v : Value) : Prop where
  row : w.heap[b]? = some (.cells #[v, .int .i64 (lim : Int)] 81)
  own : w.ownsRow (b + 1) 5 1 v l.length (bcells l)
def Wr (w : World) (b : Nat) (lim : Nat) (l : List UInt8) : Prop := ∃ v, WrV w b lim l v
theorem row_lt {w : World} {b : Nat} {o : Obj} (h : w.heap[b]? = some o) : b < w.heap.size := by
  rcases Nat.lt_or_ge b w.heap.size with h' | h'
  · exact h'
  · rw [Array.getElem?_eq_none h'] at h; cases h
theorem own_keep {w w' : World} {base e size : Nat} {v : Value} {n : Nat} {xs : List Value} (h : w.ownsRow base e size v n xs) (hk : ∀ k, base ≤ k → k < w.heap.size → w'.heap[k]? = w.heap[k]?) : w'.ownsRow base e size v n xs := by
  refine ⟨h.1, ?_⟩
  rcases h.2 with h1 | ⟨g, cap, cur, hv, hb, hg, r⟩
  · exact Or.inl h1
  · exact Or.inr ⟨g, cap, cur, hv, hb, by rw [hk g hb (row_lt hg)]; exact hg, r⟩
theorem own_form {w : World} {base e size : Nat} {v : Value} {n : Nat} {xs : List Value} (h : w.ownsRow base e size v n xs) : ∃ p c, v = .slice p n c := by
  rcases h.2 with ⟨e, hn⟩ | ⟨gg, cap', cur, e, _⟩
  · exact ⟨none, 0, by rw [e, hn]⟩
  · exact ⟨_, _, e⟩
theorem WrV.keep {w w' : World} {b lim : Nat} {l : List UInt8} {v : Value} (h : WrV w b lim l v) (hk : ∀ k, b ≤ k → k < w.heap.size → w'.heap[k]? = w.heap[k]?) : WrV w' b lim l v :=
  ⟨by rw [hk b (Nat.le_refl _) (row_lt h.row)]; exact h.row, own_keep h.own (fun k h1 h2 => hk k (by omega) h2)⟩
theorem Wr.on {w w' : World} {b lim : Nat} {l : List UInt8} (h : Wr w b lim l) (hb : Below w.heap.size w w') : Wr w' b lim l := by
  obtain ⟨v, hv⟩ := h
  exact ⟨v, hv.keep (fun k _ h2 => hb.block k h2)⟩
/-- what a Put leaves as it was. -/
structure PutF (w w' : World) (b : Nat) : Prop where
  os : w'.os = w.os
  tape : w'.tape = w.tape
  output : w'.output = w.output
  size : w.heap.size ≤ w'.heap.size
  low : ∀ k, k < b → w'.heap[k]? = w.heap[k]?
  other : ∀ k cs t f, k ≠ b → t ≠ 5 → w.heap[k]? = some (.cells cs t f) → w'.heap[k]? = some (.cells cs t f)
theorem PutF.refl (w : World) (b : Nat) : PutF w w b := ⟨rfl, rfl, rfl, Nat.le_refl _, fun _ _ => rfl, fun _ _ _ _ _ _ h => h⟩
theorem PutF.trans {a w w' : World} {b : Nat} (h : PutF a w b) (k : PutF w w' b) : PutF a w' b :=
  ⟨k.os.trans h.os, k.tape.trans h.tape, k.output.trans h.output, Nat.le_trans h.size k.size, fun i hi => (k.low i hi).trans (h.low i hi), fun i cs t f h1 h2 h3 => k.other i cs t f h1 h2 (h.other i cs t f h1 h2 h3)⟩
theorem PutF.below {w w' : World} {b B : Nat} (h : PutF w w' b) (hB : B ≤ b) : Below B w w' := ⟨h.os, h.tape, h.output, h.size, fun k hk => h.low k (by omega)⟩
theorem PutF.ofBelow {w w' : World} {b : Nat} (h : Below w.heap.size w w') (hb : b < w.heap.size) : PutF w w' b :=
  ⟨h.os, h.tape, h.output, h.size, fun k hk => h.block k (by omega), fun k cs t f _ _ h3 => by rw [h.block k (row_lt h3)]; exact h3⟩
theorem PutF.drew (w : World) (b n : Nat) : PutF w (w.drewN n) b := ⟨rfl, rfl, rfl, Nat.le_refl _, fun _ _ => rfl, fun _ _ _ _ _ _ h => h⟩
/-- one piece is laid behind. -/
theorem put_step {w w1 : World} {b lim : Nat} {l : List UInt8} {v v' : Value} {s : ByteArray} (h : WrV w b lim l v) (hown : w1.ownsRow (b + 1) 5 1 v' (l.length + s.size) (bcells l ++ Lib.strCells s)) (hg : w.grownBy w1 v.ownBlock) :
    WrV (w1.setCell ⟨b, 0, none⟩ v') b lim (l ++ s.data.toList) v' ∧ PutF w (w1.setCell ⟨b, 0, none⟩ v') b := by
  have hne : ∀ k, k ≤ b → some k ≠ v.ownBlock := by
    intro k hk e
    have := (World.ownsRow.lt h.own k e.symm).1
    omega
  have hb1 : w1.heap[b]? = some (.cells #[v, .int .i64 (lim : Int)] 81) := (hg.block b (row_lt h.row) (hne b (Nat.le_refl _))).trans h.row
  refine ⟨⟨?_, ?_⟩, hg.os, hg.tape, hg.output, by rw [World.size_setCell]; exact hg.size, ?_, ?_⟩
  · rw [heap_setCell_same _ _ _ _ _ _ hb1]; rfl
  · have e1 : (l ++ s.data.toList).length = l.length + s.size := by rw [List.length_append, list_len]
    have e2 : bcells (l ++ s.data.toList) = bcells l ++ Lib.strCells s := by unfold bcells Lib.strCells; rw [List.map_append]
    rw [e1, e2]
    exact own_keep hown (fun k h1 h2 => heap_setCell_other _ _ _ _ (by show k ≠ b; omega))
  · intro k hk
    rw [heap_setCell_other _ _ _ _ (by show k ≠ b; omega)]
    exact hg.block k (by have := row_lt h.row; omega) (hne k (by omega))
  · intro k cs t f h1 h2 h3
    rw [heap_setCell_other _ _ _ _ (by show k ≠ b; exact h1)]
    by_cases e : some k = v.ownBlock
    · rcases h.own.2 with hn | ⟨g, cap, cur, hv, _, hgg, _⟩
      · rw [hn.1] at e; cases e
      · rw [hv] at e
        have e' : k = g := by simpa [Value.ownBlock] using e
        subst e'
        rw [hgg] at h3
        injection h3 with h3
        injection h3 with _ h4 _
        exact absurd h4.symm h2
    · rw [hg.block k (row_lt h3) e]; exact h3

/-- the pieces, one behind the other. -/
def cat (S : Nat → ByteArray) (k : Nat) : List UInt8 := (List.range k).flatMap fun i => (S i).data.toList
theorem cat_succ (S : Nat → ByteArray) (k : Nat) : cat S (k + 1) = cat S k ++ (S k).data.toList := by unfold cat; rw [List.range_succ, List.flatMap_append]; simp
theorem cat_zero (S : Nat → ByteArray) : cat S 0 = [] := rfl
theorem cat_len (S : Nat → ByteArray) (k : Nat) : (cat S (k + 1)).length = (cat S k).length + (S k).size := by rw [cat_succ, List.length_append, list_len]
theorem cat_mono (S : Nat → ByteArray) {j k : Nat} (h : j ≤ k) : (cat S j).length ≤ (cat S k).length := by
  induction k with
  | zero => have : j = 0 := by omega
            subst this; exact Nat.le_refl _
  | succ k ih =>
    by_cases e : j = k + 1
    · subst e; exact Nat.le_refl _
    · have := ih (by omega)
      rw [cat_len]; omega
/-- the pieces' block, apart from the Writer's own bytes. -/
def Pcs (w : World) (b g off len : Nat) (S : Nat → ByteArray) : Prop := ∃ cs t f, g ≠ b ∧ t ≠ 5 ∧ w.heap[g]? = some (.cells cs t f) ∧ ∀ i, i < len → w.cell? ⟨g, off + i, none⟩ = some (.string (S i))
theorem Pcs.on {w w' : World} {b g off len : Nat} {S : Nat → ByteArray} (h : Pcs w b g off len S) (hp : PutF w w' b) : Pcs w' b g off len S := by
  obtain ⟨cs, t, f, h1, h2, h3, h4⟩ := h
  have e := hp.other g cs t f h1 h2 h3
  exact ⟨cs, t, f, h1, h2, e, fun i hi => by rw [World.cell?_of_block (w := w) (by rw [e, h3])]; exact h4 i hi⟩
theorem Pcs.low {w w' : World} {b g off len : Nat} {S : Nat → ByteArray} (h : ∀ i, i < len → w.cell? ⟨g, off + i, none⟩ = some (.string (S i))) (hg : g < b) (hp : PutF w w' b) : ∀ i, i < len → w'.cell? ⟨g, off + i, none⟩ = some (.string (S i)) := by
  intro i hi
  rw [World.cell?_of_block (w := w) (hp.low g hg)]; exact h i hi

theorem info5w : (Tryd.prog.info? 5).map (fun i => (i.zero, i.size, i.bytes)) = some (some (.int .u8 0), 1, 1) := by kernel_rfl
set_option maxHeartbeats 2000000 in
set_option maxRecDepth 20000 in
theorem put_ok (b lim : Nat) (l : List UInt8) (ad : Option Addr) (g off len cap : Nat) (S : Nat → ByteArray) (w : World) (hW : Wr w b lim l) (hlim : lim ≤ 1073741824) (hlen : len ≤ 140737488351232)
    (had : len ≠ 0 → ad = some ⟨g, off, none⟩) (hS : ∀ w', PutF w w' b → ∀ i, i < len → w'.cell? ⟨g, off + i, none⟩ = some (.string (S i))) (hfit : l.length + (cat S len).length ≤ lim) :
    Calls Tryd.prog 21 #[.pointer (some ⟨b, 0, none⟩), .slice ad len cap] w fun e w' => e = .returned (.int .i64 0) ∧ Wr w' b lim (l ++ cat S len) ∧ PutF w w' b := by
  obtain ⟨i0, hi, hz0, hz1, hz2⟩ := info_parts info5w
  obtain ⟨v, hv⟩ := hW
  have HV : Hid (WrV w b lim l v) := hv
  have hc0 : w.cell? ⟨b, 0, none⟩ = some v := by rw [cell_of_row _ _ _ _ _ _ hv.row]; rfl
  have hc1 : w.cell? ⟨b, 1, none⟩ = some (.int .i64 (lim : Int)) := by rw [cell_of_row _ _ _ _ _ _ hv.row]; rfl
  have HS : Hid _ := hS
  have HA : Hid _ := had
  obtain ⟨p0, c0, ev⟩ : ∃ p0 c0, v = .slice p0 l.length c0 := by
    rcases hv.own.2 with ⟨e, hn⟩ | ⟨gg, cap', cur, e, _⟩
    · exact ⟨none, 0, by rw [e, hn]⟩
    · exact ⟨_, _, e⟩
  subst ev
  have hfit' : (l.length : Int) ≤ (lim : Int) := by omega
  clear hS had hv
  go_enter Tryd.func21, Tryd.ntmps21
  go_wp2
  go_quiet (fail)
  go_wp2
  go_loop [5, 7, 22] (fun r _ i => ∃ k : Nat, k ≤ len ∧ i = .int .i64 k ∧ r = .int .i64 ((lim - l.length - (cat S k).length : Nat) : Int)) (fun _ _ i => len - (intOf i).toNat)
  case atStart => exact ⟨0, by omega, rfl, by rw [cat_zero]; go_num⟩
  case round =>
    obtain ⟨k, hk, rfl, rfl⟩ := hrel
    by_cases hlt : k < len
    · have hd := HA.out (by omega)
      subst hd
      have hp := HS.out w (PutF.refl _ _) k hlt
      have HC : Hid _ := cat_len S k
      have hm := cat_mono S (show k + 1 ≤ len by omega)
      rw [HC.out] at hm
      go_wp2
      go_round
      case rel => exact ⟨k + 1, by omega, by go_num, by rw [HC.out]; go_num⟩
      case measure => simp [intOf]; omega
    · go_wp2
      have hw0 : PutF w (w.drewN nq) b := PutF.drew _ _ _
      have hW0 : Wr (w.drewN nq) b lim (l ++ cat S 0) := by rw [cat_zero, List.append_nil]; exact ⟨_, HV.out.row, HV.out.own⟩
      clear hc0 hc1
      go_loopw [9, 37] (fun _ i wr => ∃ k : Nat, k ≤ len ∧ i = .int .i64 k ∧ Wr wr b lim (l ++ cat S k) ∧ PutF w wr b) (fun _ i _ => len - (intOf i).toNat)
      case atStart => exact ⟨0, by omega, rfl, hW0, hw0⟩
      case round =>
        clear hW0 hw0 hlt hk
        obtain ⟨k, hk, rfl, ⟨v, hv⟩, hpf⟩ := hrel
        by_cases hlt : k < len
        · have hd := HA.out (by omega)
          subst hd
          have hp := HS.out wr hpf k hlt
          have HC : Hid _ := cat_len S k
          have HC2 : Hid _ := cat_succ S k
          have hm := cat_mono S (show k + 1 ≤ len by omega)
          rw [HC.out] at hm
          have hc0 : wr.cell? ⟨b, 0, none⟩ = some v := by rw [cell_of_row _ _ _ _ _ _ hv.row]; rfl
          have HV2 : Hid (WrV wr b lim (l ++ cat S k) v) := hv
          have HO : Hid (wr.ownsRow (b + 1) 5 1 v (l ++ cat S k).length (bcells (l ++ cat S k))) := hv.own
          have hL2 : (l ++ cat S k).length = l.length + (cat S k).length := List.length_append
          have hbz := row_lt hv.row
          have hcf : ∀ (w1 : World) x, wr.grownBy w1 v.ownBlock → w1.frozen? ⟨b, x, none⟩ = false ∧ w1.cell? ⟨b, 0, none⟩ = some v := by
            intro w1 x hg
            have hb1 : w1.heap[b]? = some (.cells #[v, .int .i64 (lim : Int)] 81) := (hg.block b (row_lt hv.row) (fun e => by have := (World.ownsRow.lt hv.own b e.symm).1; omega)).trans hv.row
            exact ⟨frozen_of_row _ _ _ _ _ hb1, by rw [cell_of_row _ _ _ _ _ _ hb1]; rfl⟩
          clear hv
          go_wp2_with (at_builtin; go_must (refine Lib.wpList_append_own_string _ rfl _ _ 66 9 rfl (b + 1) 5 i0 Tryd.underlying66 Tryd.underlying9 hi hz0 hz1 hz2 _ _ _ rfl HO.out _ rfl ?c1 ?c2 ?c3 ?_))
          case c1 => unfold maxLen; omega
          case c2 => omega
          case c3 => omega
          · intro v' w1 hown' hgrow _
            obtain ⟨hf1, hcc1⟩ := hcf w1 0 hgrow
            obtain ⟨p1, q1, ev1⟩ := own_form hown'
            subst ev1
            obtain ⟨hP1, hP2⟩ := put_step (s := S k) HV2.out (by rw [List.length_append]; exact hown') hgrow
            go_wp2
            go_roundw
            case rel =>
              refine ⟨k + 1, by omega, by go_num, ?_, hpf.trans hP2⟩
              rw [HC2.out, ← List.append_assoc]
              exact ⟨_, hP1⟩
            case measure => simp [intOf]; omega
        · have hke : k = len := by omega
          subst hke
          go_wp2
          go_ret
          exact ⟨rfl, ⟨v, hv⟩, hpf⟩
set_option maxHeartbeats 2000000 in
set_option maxRecDepth 20000 in
theorem put_long (b lim : Nat) (l : List UInt8) (ad : Option Addr) (g off len cap : Nat) (S : Nat → ByteArray) (w : World) (hW : Wr w b lim l) (hlim : lim ≤ 1073741824) (hlen : len ≤ 140737488351232) (hl : l.length ≤ lim)
    (had : len ≠ 0 → ad = some ⟨g, off, none⟩) (hS : ∀ w', PutF w w' b → ∀ i, i < len → w'.cell? ⟨g, off + i, none⟩ = some (.string (S i))) (hz : ∀ i, i < len → (S i).size ≤ 140737488351232) (hfit : lim < l.length + (cat S len).length) :
    Calls Tryd.prog 21 #[.pointer (some ⟨b, 0, none⟩), .slice ad len cap] w fun e w' => e = .returned (.int .i64 2) ∧ Wr w' b lim l ∧ PutF w w' b := by
  obtain ⟨v, hv⟩ := hW
  have HV : Hid (WrV w b lim l v) := hv
  have hc0 : w.cell? ⟨b, 0, none⟩ = some v := by rw [cell_of_row _ _ _ _ _ _ hv.row]; rfl
  have hc1 : w.cell? ⟨b, 1, none⟩ = some (.int .i64 (lim : Int)) := by rw [cell_of_row _ _ _ _ _ _ hv.row]; rfl
  have HS : Hid _ := hS
  have HA : Hid _ := had
  have HZ : Hid _ := hz
  obtain ⟨p0, c0, ev⟩ : ∃ p0 c0, v = .slice p0 l.length c0 := by
    rcases hv.own.2 with ⟨e, hn⟩ | ⟨gg, cap', cur, e, _⟩
    · exact ⟨none, 0, by rw [e, hn]⟩
    · exact ⟨_, _, e⟩
  subst ev
  have hfit' : (l.length : Int) ≤ (lim : Int) := by omega
  clear hS had hv hz
  go_enter Tryd.func21, Tryd.ntmps21
  go_wp2
  go_quiet (fail)
  go_wp2
  go_loop [5, 7, 22] (fun r _ i => ∃ k : Nat, k ≤ len ∧ l.length + (cat S k).length ≤ lim ∧ i = .int .i64 k ∧ r = .int .i64 ((lim - l.length - (cat S k).length : Nat) : Int)) (fun _ _ i => len - (intOf i).toNat)
  case atStart => exact ⟨0, by omega, by rw [cat_zero]; simpa using hl, rfl, by rw [cat_zero]; go_num⟩
  case round =>
    obtain ⟨k, hk, hr, rfl, rfl⟩ := hrel
    by_cases hlt : k < len
    · have hd := HA.out (by omega)
      subst hd
      have hp := HS.out w (PutF.refl _ _) k hlt
      have hzk := HZ.out k hlt
      have HC : Hid _ := cat_len S k
      by_cases hbig : lim - l.length - (cat S k).length < (S k).size
      · go_wp2
        go_ret
        exact ⟨rfl, ⟨_, HV.out.row, HV.out.own⟩, PutF.drew _ _ _⟩
      · go_wp2
        go_round
        case rel => exact ⟨k + 1, by omega, by rw [HC.out]; omega, by go_num, by rw [HC.out]; go_num⟩
        case measure => simp [intOf]; omega
    · exfalso
      have hke : k = len := by omega
      subst hke
      omega
set_option maxHeartbeats 400000 in
theorem wsize_any (b lim : Nat) (l : List UInt8) (w : World) (hW : Wr w b lim l) :
    Calls Tryd.prog 22 #[.pointer (some ⟨b, 0, none⟩)] w fun e w' => e = .returned (.int .i64 (l.length : Int)) ∧ w' = w := by
  obtain ⟨v, hv⟩ := hW
  obtain ⟨p0, c0, ev⟩ : ∃ p0 c0, v = .slice p0 l.length c0 := by
    rcases hv.own.2 with ⟨e, hn⟩ | ⟨gg, cap', cur, e, _⟩
    · exact ⟨none, 0, by rw [e, hn]⟩
    · exact ⟨_, _, e⟩
  have hc0 : w.cell? ⟨b, 0, none⟩ = some v := by rw [cell_of_row _ _ _ _ _ _ hv.row]; rfl
  subst ev
  clear hv
  go_enter Tryd.func22, Tryd.ntmps22
  go_wp2
  go_ret
  exact ⟨rfl, rfl⟩
theorem conv_nil (w : World) : Sem.run Tryd.prog (convert 66 9 (.slice none 0 0)) w = .ok (.string ⟨#[]⟩) w := by kernel_rfl
theorem own_text {wr : World} {base : Nat} {v : Value} {l : List UInt8} (h : wr.ownsRow base 5 1 v l.length (bcells l)) :
    ∃ p c, v = .slice p l.length c ∧ Sem.run Tryd.prog (convert 66 9 (.slice p l.length c)) wr = .ok (.string ⟨l.toArray⟩) wr := by
  rcases h.2 with ⟨e, hn⟩ | ⟨g, cap, cur, hv, _, hg, hn, _, hs, ht⟩
  · have : l = [] := List.length_eq_zero_iff.1 hn
    subst this
    exact ⟨none, 0, e, conv_nil wr⟩
  · refine ⟨some ⟨g, 0, none⟩, cap, hv, ?_⟩
    refine run_convert_bytes_back wr 66 9 5 ⟨g, 0, none⟩ cap l Tryd.underlying66 Tryd.underlying5 Tryd.underlying9 ?_
    intro j hj
    have e : (⟨g, 0, none⟩ : Addr).add j = ⟨g, j, none⟩ := by unfold Addr.add; split <;> simp_all
    rw [e, cell_of_row _ _ _ _ _ _ hg]
    have h2 := congrArg (fun x => x[j]?) ht
    simp only [Nat.mul_one, bcells] at h2
    rw [List.getElem?_take_of_lt hj, List.getElem?_map, List.getElem?_eq_getElem hj] at h2
    simpa using h2
set_option maxHeartbeats 400000 in
theorem wtext_any (b lim : Nat) (l : List UInt8) (w : World) (hW : Wr w b lim l) :
    Calls Tryd.prog 23 #[.pointer (some ⟨b, 0, none⟩)] w fun e w' => e = .returned (.string ⟨l.toArray⟩) ∧ w' = w := by
  obtain ⟨v, hv⟩ := hW
  have hc0 : w.cell? ⟨b, 0, none⟩ = some v := by rw [cell_of_row _ _ _ _ _ _ hv.row]; rfl
  obtain ⟨p0, c0, ev, hcv⟩ := own_text hv.own
  subst ev
  clear hv
  go_enter Tryd.func23, Tryd.ntmps23
  go_wp2
  go_ret
  exact ⟨rfl, rfl⟩
set_option maxHeartbeats 400000 in
theorem newWriter_ok (lim : Nat) (hl : lim ≤ 1073741824) (w : World) :
    Calls Tryd.prog 19 #[.int .i64 (lim : Int)] w fun e w' => e = .returned (.tuple #[.pointer (some ⟨w.heap.size, 0, none⟩), .int .i64 0]) ∧ w' = w.alloc (.cells #[.slice none 0 0, .int .i64 (lim : Int)] 81) := by
  have h1 : ¬ (1073741824 : Int) < (lim : Int) := by omega
  go_enter Tryd.func19, Tryd.ntmps19
  go_wp2
  go_ret2
  exact ⟨rfl, rfl⟩
theorem Wr.start (w : World) (lim : Nat) : Wr (w.alloc (.cells #[.slice none 0 0, .int .i64 (lim : Int)] 81)) w.heap.size lim [] :=
  ⟨_, heap_alloc_new _ _, World.ownsRow_nil _ _ _ _⟩
end Go.Proofs.YtcnicdcjdieodaaDoor
