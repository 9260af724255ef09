import Derived.Test.YtdemodhjlbkbeabRE
import Derived.Test.YtdemodhjlbkbeabRD
import Derived.Test.YtdemodhjlbkbeabRF
import Derived.Laws.OwnMore
namespace Go.Proofs.Ytdemodhjlbkbeab
open Go.RowKit
set_option linter.unusedVariables false
theorem bblocks_split {bvs : Array Value} {i : Nat} {bv : Value} (h : bvs[i]? = some bv) : ∃ P Q, bblocks bvs = P ++ bv.ownBlock.toList ++ Q ∧ (∀ bv', bblocks (bvs.setIfInBounds i bv') = P ++ bv'.ownBlock.toList ++ Q) ∧ (∀ j b E, j ≠ i → bvs[j]? = some b → b.ownBlock = some E → E ∈ P ∨ E ∈ Q) := by
  have hl : bvs.toList[i]? = some bv := by rw [Array.getElem?_toList]; exact h
  obtain ⟨hi, hg⟩ := List.getElem?_eq_some_iff.1 hl
  have fm : ∀ b : Value, List.filterMap Value.ownBlock [b] = b.ownBlock.toList := fun b => by
    rcases hb : b.ownBlock with _ | _ <;> simp [hb]
  refine ⟨(bvs.toList.take i).filterMap Value.ownBlock, (bvs.toList.drop (i + 1)).filterMap Value.ownBlock, ?_, fun bv' => ?_, fun j b E hj hb he => ?_⟩
  · unfold bblocks
    conv => lhs; rw [← List.take_append_drop i bvs.toList, List.drop_eq_getElem_cons hi, hg]
    rw [List.filterMap_append, ← List.singleton_append, List.filterMap_append, fm, List.append_assoc]
  · unfold bblocks
    rw [Array.toList_setIfInBounds, List.set_eq_take_append_cons_drop, if_pos hi, List.filterMap_append, ← List.singleton_append, List.filterMap_append, fm, List.append_assoc]
  · have hjl : bvs.toList[j]? = some b := by rw [Array.getElem?_toList]; exact hb
    obtain ⟨hj1, hj2⟩ := List.getElem?_eq_some_iff.1 hjl
    rcases Nat.lt_or_gt_of_ne hj with h1 | h1
    · left
      refine List.mem_filterMap.2 ⟨b, ?_, he⟩
      refine List.mem_iff_getElem?.2 ⟨j, ?_⟩
      rw [List.getElem?_take_of_lt h1]; exact hjl
    · right
      refine List.mem_filterMap.2 ⟨b, ?_, he⟩
      refine List.mem_iff_getElem?.2 ⟨j - (i + 1), ?_⟩
      rw [List.getElem?_drop, show i + 1 + (j - (i + 1)) = j by omega]; exact hjl
theorem nodup_mid {P Q : List Nat} {o o' : Option Nat} (h : (P ++ o.toList ++ Q).Nodup) (hn : ∀ E, o' = some E → o = some E ∨ (E ∉ P ∧ E ∉ Q)) : (P ++ o'.toList ++ Q).Nodup := by
  rcases o' with _ | E
  · have : (P ++ (none : Option Nat).toList ++ Q).Sublist (P ++ o.toList ++ Q) := by
      simp only [Option.toList_none, List.append_nil, List.append_assoc]
      exact List.Sublist.append_left (List.sublist_append_right _ _) _
    exact this.nodup h
  · rcases hn E rfl with rfl | ⟨h1, h2⟩
    · exact h
    · have hs : (P ++ Q).Sublist (P ++ o.toList ++ Q) := by
        rw [List.append_assoc]
        exact List.Sublist.append_left (List.sublist_append_right _ _) _
      have hpq := hs.nodup h
      simp only [Option.toList_some, List.append_assoc]
      refine List.nodup_append.2 ⟨(List.nodup_append.1 hpq).1, ?_, ?_⟩
      · simp only [List.singleton_append, List.nodup_cons]
        exact ⟨h2, (List.nodup_append.1 hpq).2.1⟩
      · intro a ha b hb
        simp only [List.singleton_append, List.mem_cons] at hb
        rcases hb with rfl | hb
        · rintro rfl; exact h1 ha
        · exact (List.nodup_append.1 hpq).2.2 a ha b hb
theorem nodup_ne {P Q : List Nat} {E : Nat} (h : (P ++ (some E).toList ++ Q).Nodup) : E ∉ P ∧ E ∉ Q := by
  simp only [Option.toList_some, List.append_assoc, List.singleton_append] at h
  have := List.nodup_append.1 h
  exact ⟨fun hp => this.2.2 E hp E (by simp) rfl, (List.nodup_cons.1 this.2.1).1⟩
/-- what a call does to memory: the blocks F, which become F'. -/
structure Moved (w w' : World) (F F' : List Nat) : Prop where
  os : w'.os = w.os
  tape : w'.tape = w.tape
  output : w'.output = w.output
  size : w.heap.size ≤ w'.heap.size
  rest : ∀ q, q < w.heap.size → q ∉ F → w'.heap[q]? = w.heap[q]?
  new : ∀ q ∈ F', q ∈ F ∨ w.heap.size ≤ q
theorem Moved.refl (w : World) (F : List Nat) : Moved w w F F := ⟨rfl, rfl, rfl, Nat.le_refl _, fun _ _ _ => rfl, fun _ h => Or.inl h⟩
theorem Moved.of_below {w w' : World} {F : List Nat} (h : Below w.heap.size w w') : Moved w w' F F := ⟨h.os, h.tape, h.output, h.size, fun q hq _ => h.block q hq, fun _ h => Or.inl h⟩
theorem Moved.trans {a b c : World} {F F1 F2 : List Nat} (h1 : Moved a b F F1) (h2 : Moved b c F1 F2) : Moved a c F F2 := by
  refine ⟨h2.os.trans h1.os, h2.tape.trans h1.tape, h2.output.trans h1.output, Nat.le_trans h1.size h2.size, fun q hq hn => ?_, fun q hq => ?_⟩
  · refine (h2.rest q (Nat.lt_of_lt_of_le hq h1.size) (fun hm => ?_)).trans (h1.rest q hq hn)
    rcases h1.new q hm with h | h
    · exact hn h
    · omega
  · rcases h2.new q hq with h | h
    · exact h1.new q h
    · exact Or.inr (Nat.le_trans h1.size h)
theorem Moved.below {w w' : World} {F F' : List Nat} {b : Nat} (h : Moved w w' F F') (hF : ∀ q ∈ F, b ≤ q) (hb : b ≤ w.heap.size) : Below b w w' :=
  ⟨h.os, h.tape, h.output, h.size, fun q hq => h.rest q (by omega) (fun hm => by have := hF q hm; omega)⟩
theorem Moved.ge {w w' : World} {F F' : List Nat} {b : Nat} (h : Moved w w' F F') (hF : ∀ q ∈ F, b ≤ q) (hb : b ≤ w.heap.size) : ∀ q ∈ F', b ≤ q := fun q hq => by
  rcases h.new q hq with h1 | h1
  · exact hF q h1
  · omega
theorem Moved.keep {w w' : World} {F F' : List Nat} (h : Moved w w' F F') {q : Nat} {o : Obj} (hq : w.heap[q]? = some o) (hn : q ∉ F) : w'.heap[q]? = some o := (h.rest q (row_lt hq) hn).trans hq
/-- a table in memory, or none; the blocks that it lies in. -/
def TabAt (W : World) (v : Value) (T : List (List Ent)) (L : List Nat) : Prop :=
  ((∃ P c, v = .slice P 0 c) ∧ T = [] ∧ L = []) ∨ ∃ B bvs, v = .slice (some ⟨B, 0, none⟩) T.length T.length ∧ T ≠ [] ∧ TabIs W 0 B bvs T ∧ L = B :: bblocks bvs
theorem TabIs.lt {W : World} {b0 B : Nat} {bvs : Array Value} {T : List (List Ent)} (h : TabIs W b0 B bvs T) : ∀ E ∈ bblocks bvs, E < W.heap.size := by
  intro E hE
  obtain ⟨bv, hm, he⟩ := List.mem_filterMap.1 hE
  obtain ⟨i, hi⟩ := List.mem_iff_getElem?.1 hm
  rw [Array.getElem?_toList] at hi
  obtain ⟨hl, _⟩ := Array.getElem?_eq_some_iff.1 hi
  obtain ⟨bv', h1, h2⟩ := h.each i (by rw [← h.size]; exact hl)
  rw [hi] at h1; cases h1
  exact (h2.lt E he).1
theorem TabAt.lt {W : World} {v : Value} {T : List (List Ent)} {L : List Nat} (h : TabAt W v T L) : ∀ E ∈ L, E < W.heap.size := by
  rcases h with ⟨_, _, rfl⟩ | ⟨B, bvs, _, _, h, rfl⟩
  · intro E hE; simp at hE
  · intro E hE
    rcases List.mem_cons.1 hE with rfl | hE
    · exact row_lt h.row
    · exact h.lt E hE
theorem TabAt.keep {W W' : World} {v : Value} {T : List (List Ent)} {L : List Nat} (h : TabAt W v T L) (hk : ∀ E ∈ L, W'.heap[E]? = W.heap[E]?) : TabAt W' v T L := by
  rcases h with h | ⟨B, bvs, h1, h2, h3, rfl⟩
  · exact Or.inl h
  · exact Or.inr ⟨B, bvs, h1, h2, h3.keep (hk B (by simp)) (fun E hE => hk E (by simp [hE])), rfl⟩
theorem TabAt.form {W : World} {v : Value} {T : List (List Ent)} {L : List Nat} (h : TabAt W v T L) : ∃ P c, v = .slice P T.length c := by
  rcases h with ⟨⟨P, c, rfl⟩, rfl, _⟩ | ⟨B, bvs, rfl, _⟩
  · exact ⟨_, _, rfl⟩
  · exact ⟨_, _, rfl⟩
/-- a dict in memory; its blocks. -/
def DI (W : World) (g : Nat) (F : List Nat) (D : DS) : Prop :=
  ∃ v1 v2 L1 L2, W.heap[g]? = some (.cells (dca D.seed v1 (cnt D.T1 : Nat) v2 (cnt D.T2 : Nat) (D.ix : Nat)) 56) ∧ TabAt W v1 D.T1 L1 ∧ TabAt W v2 D.T2 L2 ∧ F = g :: (L1 ++ L2) ∧ F.Nodup
theorem DI.lt {W : World} {g : Nat} {F : List Nat} {D : DS} (h : DI W g F D) : ∀ q ∈ F, q < W.heap.size := by
  obtain ⟨v1, v2, L1, L2, h1, h2, h3, rfl, h4⟩ := h
  intro q hq
  rcases List.mem_cons.1 hq with rfl | hq
  · exact row_lt h1
  · rcases List.mem_append.1 hq with hq | hq
    · exact h2.lt q hq
    · exact h3.lt q hq
theorem DI.keep {W W' : World} {g : Nat} {F : List Nat} {D : DS} (h : DI W g F D) (hk : ∀ E ∈ F, W'.heap[E]? = W.heap[E]?) : DI W' g F D := by
  obtain ⟨v1, v2, L1, L2, h1, h2, h3, rfl, h4⟩ := h
  exact ⟨v1, v2, L1, L2, (hk g (by simp)).trans h1, h2.keep (fun E hE => hk E (by simp [hE])), h3.keep (fun E hE => hk E (by simp [hE])), rfl, h4⟩
theorem DI.on {W W' : World} {g : Nat} {F : List Nat} {D : DS} (h : DI W g F D) (hb : Below W.heap.size W W') : DI W' g F D := h.keep (fun E hE => hb.block E (h.lt E hE))
theorem DI.other {W W' : World} {g : Nat} {F G G' : List Nat} {D : DS} (h : DI W g F D) (hm : Moved W W' G G') (hd : ∀ q ∈ F, q ∉ G) : DI W' g F D := h.keep (fun E hE => hm.rest E (h.lt E hE) (hd E hE))
theorem hN_and (seed : Int) (k : ByteArray) (j : Nat) (hj : j ≤ 42) (n : Nat) (hn : n = 2 ^ j) : bits .and .i64 (hashT seed k) ((n : Int) - 1) = ((hN seed k % n : Nat) : Int) := by
  have hp : 2 ^ j ≤ 2 ^ 42 := Nat.pow_le_pow_right (by omega) hj
  have h0 : 0 < 2 ^ j := Nat.two_pow_pos j
  have hb : (BitVec.ofInt 64 ((n : Int) - 1)).toNat = 2 ^ j - 1 := by
    rw [BitVec.toNat_ofInt, hn]
    generalize 2 ^ j = m at *
    omega
  show IntKind.i64.wrap ((BitVec.ofInt 64 (hashT seed k) &&& BitVec.ofInt 64 ((n : Int) - 1)).toNat : Int) = _
  rw [BitVec.toNat_and, hb, Nat.and_two_pow_sub_one_eq_mod, ← hn]
  show IntKind.i64.wrap ((hN seed k % n : Nat) : Int) = _
  have := Nat.mod_lt (hN seed k) (hn ▸ h0)
  rw [IntKind.wrap_i64] <;> omega
theorem len_le_cnt (T : List (List Ent)) (i : Nat) (h : i < T.length) : T[i].length ≤ cnt T := by
  obtain ⟨R, h1, _⟩ := set_flat T i h []
  unfold cnt; rw [h1.length_eq, List.length_append]; omega
theorem tget_eq {T : List (List Ent)} {i : Nat} (h : i < T.length) : T[i]?.getD [] = T[i] := by rw [List.getElem?_eq_getElem h, Option.getD_some]
theorem TWf.pow' {seed : Int} {T : List (List Ent)} (h : TWf seed T) (hne : T ≠ []) (hl : T.length ≤ 4398046511104) : ∃ j, 2 ≤ j ∧ j ≤ 42 ∧ T.length = 2 ^ j := by
  rcases h.pow with rfl | ⟨j, h1, h2⟩
  · exact absurd rfl hne
  · refine ⟨j, h1, ?_, h2⟩
    rw [h2] at hl
    rcases Nat.lt_or_ge 42 j with h3 | h3
    · have : 2 ^ 43 ≤ 2 ^ j := Nat.pow_le_pow_right (by omega) h3
      omega
    · exact h3
end Go.Proofs.Ytdemodhjlbkbeab
namespace Go.Proofs.Ytdemodhjlbkbeab
open Go.RowKit
set_option linter.unusedVariables false
theorem tadd_eq {seed : Int} {T : List (List Ent)} {k : ByteArray} (v : Int) (h : hN seed k % T.length < T.length) : tadd seed T k v = T.set (hN seed k % T.length) (insL T[hN seed k % T.length] (lb T[hN seed k % T.length] k) (k, v)) := by
  unfold tadd; rw [tget_eq h]
theorem tdrop_eq {seed : Int} {T : List (List Ent)} {k : ByteArray} (h : hN seed k % T.length < T.length) : tdrop seed T k = T.set (hN seed k % T.length) (delL T[hN seed k % T.length] (lb T[hN seed k % T.length] k)) := by
  unfold tdrop; rw [tget_eq h]
theorem tput_eq {seed : Int} {T : List (List Ent)} {k : ByteArray} (v : Int) (h : hN seed k % T.length < T.length) : tput seed T k v = T.set (hN seed k % T.length) (putL T[hN seed k % T.length] k v) := by
  unfold tput; rw [tget_eq h]
theorem thas_eq {seed : Int} {T : List (List Ent)} {k : ByteArray} (h : hN seed k % T.length < T.length) : thas seed T k = hit T[hN seed k % T.length] k := by
  unfold thas; rw [tget_eq h]
/-- a bucket of a table in memory is another one now. -/
theorem tab_set {w w' : World} {g B i : Nat} {T : List (List Ent)} {bvs : Array Value} {bv bv' : Value} {X : List Ent} (hgl : g < w.heap.size) (hi : i < T.length) (hI : TabIs w 0 B bvs T) (hbi : bvs[i]? = some bv) (hnd : (g :: B :: bblocks bvs).Nodup)
    (h2 : w'.heap[B]? = some (.cells (bvs.setIfInBounds i bv') 83)) (h3 : BV w' 0 bv' X) (h4 : ∀ E, bv'.ownBlock = some E → bv.ownBlock = some E ∨ w.heap.size ≤ E) (h5 : Touch w w' g B bv) :
    TabIs w' 0 B (bvs.setIfInBounds i bv') (T.set i X) ∧ (g :: B :: bblocks (bvs.setIfInBounds i bv')).Nodup ∧ Moved w w' (g :: B :: bblocks bvs) (g :: B :: bblocks (bvs.setIfInBounds i bv')) := by
  obtain ⟨P, Q, s1, s2, s3⟩ := bblocks_split hbi
  have hlt := hI.lt
  obtain ⟨hgn, hnd1⟩ := List.nodup_cons.1 hnd
  obtain ⟨hBn, hnd2⟩ := List.nodup_cons.1 hnd1
  have hBl := row_lt hI.row
  have hgB : g ≠ B := fun e => hgn (by simp [e])
  have hnew : ∀ q ∈ bblocks (bvs.setIfInBounds i bv'), q ∈ bblocks bvs ∨ w.heap.size ≤ q := by
    intro q hq
    rw [s2] at hq
    simp only [List.append_assoc, List.mem_append] at hq
    rcases hq with hq | hq | hq
    · left; rw [s1]; simp [hq]
    · have : bv'.ownBlock = some q := by simpa using hq
      rcases h4 q this with h | h
      · left; rw [s1]; simp [h]
      · exact Or.inr h
    · left; rw [s1]; simp [hq]
  have hno : ∀ q, (q < w.heap.size ∧ q ∉ bblocks bvs) → q ∉ bblocks (bvs.setIfInBounds i bv') := by
    intro q ⟨hq1, hq2⟩ hq
    rcases hnew q hq with h | h
    · exact hq2 h
    · omega
  refine ⟨hI.set hi h2 h3 (fun j hj hji b hb E hE => ?_), ?_, ⟨h5.os, h5.tape, h5.output, h5.size, fun q hq hn => ?_, fun q hq => ?_⟩⟩
  · have hm := bblocks_mem hb hE
    refine h5.rest E (hlt E hm) (fun e => hgn (by subst e; simp [hm])) (fun e => hBn (by subst e; exact hm)) (fun e => ?_)
    have hx := hnd2
    rw [s1, e] at hx
    have := nodup_ne hx
    rcases s3 j b E hji hb hE with h | h
    · exact this.1 h
    · exact this.2 h
  · have hn2 : (bblocks (bvs.setIfInBounds i bv')).Nodup := by
      rw [s2]
      rw [s1] at hnd2
      refine nodup_mid hnd2 (fun E hE => ?_)
      rcases h4 E hE with h | h
      · exact Or.inl h
      · right
        constructor
        · intro hm
          have := hlt E (by rw [s1]; simp [hm])
          omega
        · intro hm
          have := hlt E (by rw [s1]; simp [hm])
          omega
    refine List.nodup_cons.2 ⟨?_, List.nodup_cons.2 ⟨hno B ⟨hBl, hBn⟩, hn2⟩⟩
    intro hm
    rcases List.mem_cons.1 hm with h | h
    · exact hgB h
    · rcases hnew g h with h | h
      · exact hgn (by simp [h])
      · omega
  · refine h5.rest q hq (fun e => hn (by simp [e])) (fun e => hn (by simp [e])) (fun e => hn ?_)
    have := bblocks_mem hbi e
    simp [this]
  · rcases List.mem_cons.1 hq with rfl | hq
    · left; simp
    · rcases List.mem_cons.1 hq with rfl | hq
      · left; simp
      · rcases hnew q hq with h | h
        · left; simp [h]
        · exact Or.inr h
theorem add_tab (seed : Int) (g o : Nat) (k : ByteArray) (v : Int) (T : List (List Ent)) (L : List Nat) (dc : Array Value) (tv : Value) (w : World) (hwf : TWf seed T) (hne : T ≠ []) (hn4 : T.length ≤ 4398046511104) (hk : thas seed T k = false) (hc : cnt T ≤ 4398046511000)
    (hg : w.heap[g]? = some (.cells dc 56)) (hc0 : dc[o]? = some tv) (hc1 : dc[o + 1]? = some (.int .i64 (cnt T : Nat))) (hT : TabAt w tv T L) (hnd : (g :: L).Nodup) :
    Calls Try.prog 33 #[.pointer (some ⟨g, o, none⟩), .int .i64 (hashT seed k), .agg #[.string k, .int .i64 v]] w fun e w' => e = .returned (.tuple #[]) ∧ ∃ L', w'.heap[g]? = some (.cells (dc.setIfInBounds (o + 1) (.int .i64 (cnt (tadd seed T k v) : Nat))) 56) ∧ TabAt w' tv (tadd seed T k v) L' ∧ (g :: L').Nodup ∧ Moved w w' (g :: L) (g :: L') := by
  rcases hT with ⟨_, h, _⟩ | ⟨B, bvs, rfl, _, hI, rfl⟩
  · exact absurd h hne
  have hl := TWf.lt (seed := seed) hne k
  obtain ⟨j, hj1, hj2, hj3⟩ := hwf.pow' hne hn4
  obtain ⟨bv, hbi, hbv⟩ := hI.each _ hl
  have hle := len_le_cnt T _ hl
  have hcn : cnt (tadd seed T k v) = cnt T + 1 := by
    unfold cnt; rw [(tadd_wf hwf hne hk v).2.length_eq]; rfl
  refine (add_any 0 g o B T.length _ (List.length_pos_iff.2 hne) hn4 hl (hashT seed k) (hN_and seed k j hj2 _ hj3) k v bv _ (hwf.rise _ hl) (by omega) (cnt T) (by omega) dc bvs w (Nat.zero_le _) hg hc0 hc1 hI.row hbi hbv).mono ?_
  rintro e w' ⟨rfl, bv', h1, h2, h3, h4, h5⟩
  obtain ⟨q1, q2, q3⟩ := tab_set (row_lt hg) hl hI hbi hnd h2 h3 h4 h5
  refine ⟨rfl, _, ?_, Or.inr ⟨B, _, ?_, ?_, ?_, rfl⟩, q2, q3⟩
  · rw [hcn, show ((cnt T + 1 : Nat) : Int) = (cnt T : Int) + 1 by omega]; exact h1
  · rw [tadd_len]
  · intro h; have := tadd_len seed T k v; rw [h] at this; exact hne (List.length_eq_zero_iff.1 this.symm)
  · rw [tadd_eq v hl]; exact q1
theorem thas_lt {seed : Int} {T : List (List Ent)} {k : ByteArray} (hk : thas seed T k = true) : hN seed k % T.length < T.length := by
  rcases Nat.lt_or_ge (hN seed k % T.length) T.length with h1 | h1
  · exact h1
  · unfold thas at hk; rw [List.getElem?_eq_none h1] at hk; cases hk
theorem lt_ne {T : List (List Ent)} {i : Nat} (h : i < T.length) : T ≠ [] := fun e => by subst e; simp at h
theorem hit_bx {W : World} {bv : Value} {es : List Ent} {k : ByteArray} (h : BV W 0 bv es) (hh : hit es k = true) : ∃ E c, bv = .slice (some ⟨E, 0, none⟩) es.length c ∧ Bx W E c es := by
  rcases h with ⟨_, rfl⟩ | ⟨E, c, h1, _, h2⟩
  · cases hh
  · exact ⟨E, c, h1, h2⟩
theorem drop_tab (seed : Int) (g o : Nat) (k : ByteArray) (T : List (List Ent)) (L : List Nat) (dc : Array Value) (tv : Value) (w : World) (hwf : TWf seed T) (hn4 : T.length ≤ 4398046511104) (hk : thas seed T k = true) (hc : cnt T ≤ 4398046511000)
    (hg : w.heap[g]? = some (.cells dc 56)) (hc0 : dc[o]? = some tv) (hc1 : dc[o + 1]? = some (.int .i64 (cnt T : Nat))) (hT : TabAt w tv T L) (hnd : (g :: L).Nodup) :
    Calls Try.prog 36 #[.pointer (some ⟨g, o, none⟩), .int .i64 (hashT seed k), .string k] w fun e w' => e = .returned (.bool true) ∧ ∃ L', w'.heap[g]? = some (.cells (dc.setIfInBounds (o + 1) (.int .i64 (cnt (tdrop seed T k) : Nat))) 56) ∧ TabAt w' tv (tdrop seed T k) L' ∧ (g :: L').Nodup ∧ Moved w w' (g :: L) (g :: L') := by
  have hl := thas_lt hk
  have hne := lt_ne hl
  rcases hT with ⟨_, h, _⟩ | ⟨B, bvs, rfl, _, hI, rfl⟩
  · exact absurd h hne
  obtain ⟨j, hj1, hj2, hj3⟩ := hwf.pow' hne hn4
  obtain ⟨bv, hbi, hbv⟩ := hI.each _ hl
  have hle := len_le_cnt T _ hl
  have hht : hit T[hN seed k % T.length] k = true := by rw [← thas_eq hl]; exact hk
  obtain ⟨E, c, rfl, hbx⟩ := hit_bx hbv hht
  have hcn : cnt T = cnt (tdrop seed T k) + 1 := by
    obtain ⟨v0, _, hp⟩ := tdrop_wf hwf hk
    unfold cnt; rw [hp.length_eq]; rfl
  refine (drop_any 0 g o B T.length _ E c (List.length_pos_iff.2 hne) hn4 hl (hashT seed k) (hN_and seed k j hj2 _ hj3) k _ (hwf.rise _ hl) (by omega) hht (cnt T) (by omega) (by omega) dc bvs w (Nat.zero_le _) hg hc0 hc1 hI.row hbi hbx).mono ?_
  rintro e w' ⟨rfl, bv', h1, h2, h3, h4, h5⟩
  obtain ⟨q1, q2, q3⟩ := tab_set (row_lt hg) hl hI hbi hnd h2 h3 (fun E' h => Or.inl (by have := h4 E' h; subst this; rfl)) h5
  refine ⟨rfl, _, ?_, Or.inr ⟨B, _, ?_, ?_, ?_, rfl⟩, q2, q3⟩
  · rw [show ((cnt (tdrop seed T k) : Nat) : Int) = (cnt T : Int) - 1 by omega]; exact h1
  · rw [tdrop_len]
  · intro h; have := tdrop_len seed T k; rw [h] at this; exact hne (List.length_eq_zero_iff.1 this.symm)
  · rw [tdrop_eq hl]; exact q1
/-- drop where the key is not. -/
theorem find_tab_no (seed : Int) (g o : Nat) (k : ByteArray) (T : List (List Ent)) (L : List Nat) (tv : Value) (w : World) (hwf : TWf seed T) (hn4 : T.length ≤ 4398046511104) (hk : thas seed T k = false) (hc : cnt T ≤ 4398046511000) (hc0 : w.cell? ⟨g, o, none⟩ = some tv) (hT : TabAt w tv T L) :
    Calls Try.prog 50 #[.pointer (some ⟨g, o, none⟩), .int .i64 (hashT seed k), .string k] w fun e w' => e = .returned (.pointer none) ∧ Below w.heap.size w w' := by
  rcases hT with ⟨⟨P0, c0', rfl⟩, rfl, _⟩ | ⟨B, bvs, rfl, hne, hI, rfl⟩
  · exact (tfind_nil g o P0 c0' _ k w hc0).mono (fun e w' ⟨h1, h2⟩ => ⟨h1, by rw [h2]; exact Below.refl _ _⟩)
  have hl := TWf.lt (seed := seed) hne k
  obtain ⟨j, hj1, hj2, hj3⟩ := hwf.pow' hne hn4
  obtain ⟨bv, hbi, hbv⟩ := hI.each _ hl
  have hle := len_le_cnt T _ hl
  exact tfind_miss g o B T.length _ (List.length_pos_iff.2 hne) hn4 hl _ (hN_and seed k j hj2 _ hj3) k bv _ (hwf.rise _ hl) (by omega) w hc0 (by rw [cell_of_row _ _ _ _ _ _ hI.row]; exact hbi) hbv.bkt (by rw [← thas_eq hl]; exact hk)
/-- where a key's entry lies. -/
def Lies (w : World) (T : List (List Ent)) (L : List Nat) (seed : Int) (k : ByteArray) (E q : Nat) : Prop :=
  ∃ B bvs c, L = B :: bblocks bvs ∧ TabIs w 0 B bvs T ∧ ∃ hl : hN seed k % T.length < T.length, bvs[hN seed k % T.length]? = some (.slice (some ⟨E, 0, none⟩) T[hN seed k % T.length].length c) ∧ Bx w E c T[hN seed k % T.length] ∧ q = lb T[hN seed k % T.length] k * 2
theorem find_tab_yes (seed : Int) (g o : Nat) (k : ByteArray) (T : List (List Ent)) (L : List Nat) (tv : Value) (w : World) (hwf : TWf seed T) (hn4 : T.length ≤ 4398046511104) (hk : thas seed T k = true) (hc : cnt T ≤ 4398046511000) (hc0 : w.cell? ⟨g, o, none⟩ = some tv) (hT : TabAt w tv T L) :
    ∃ E q, Lies w T L seed k E q ∧ Calls Try.prog 50 #[.pointer (some ⟨g, o, none⟩), .int .i64 (hashT seed k), .string k] w fun e w' => e = .returned (.pointer (some ⟨E, q, none⟩)) ∧ Below w.heap.size w w' := by
  have hl := thas_lt hk
  have hne := lt_ne hl
  rcases hT with ⟨_, h, _⟩ | ⟨B, bvs, rfl, _, hI, rfl⟩
  · exact absurd h hne
  obtain ⟨j, hj1, hj2, hj3⟩ := hwf.pow' hne hn4
  obtain ⟨bv, hbi, hbv⟩ := hI.each _ hl
  have hle := len_le_cnt T _ hl
  have hht : hit T[hN seed k % T.length] k = true := by rw [← thas_eq hl]; exact hk
  obtain ⟨E, c, rfl, hbx⟩ := hit_bx hbv hht
  refine ⟨E, _, ⟨B, bvs, c, rfl, hI, hl, hbi, hbx, rfl⟩, ?_⟩
  exact tfind_hit g o B T.length _ E c (List.length_pos_iff.2 hne) hn4 hl _ (hN_and seed k j hj2 _ hj3) k _ (hwf.rise _ hl) (by omega) w hc0 (by rw [cell_of_row _ _ _ _ _ _ hI.row]; exact hbi) hbx.le hbx.ents hht (hit_lt _ _ hht)
end Go.Proofs.Ytdemodhjlbkbeab
namespace Go.Proofs.Ytdemodhjlbkbeab
open Go.RowKit
set_option linter.unusedVariables false
theorem nd_part1 {g : Nat} {L1 L2 : List Nat} (h : (g :: (L1 ++ L2)).Nodup) : (g :: L1).Nodup := List.Sublist.nodup (List.Sublist.cons_cons _ (List.sublist_append_left _ _)) h
theorem nd_part2 {g : Nat} {L1 L2 : List Nat} (h : (g :: (L1 ++ L2)).Nodup) : (g :: L2).Nodup := List.Sublist.nodup (List.Sublist.cons_cons _ (List.sublist_append_right _ _)) h
theorem nd_apart {g : Nat} {L1 L2 : List Nat} (h : (g :: (L1 ++ L2)).Nodup) : (∀ q ∈ L1, q ∉ g :: L2) ∧ (∀ q ∈ L2, q ∉ g :: L1) := by
  obtain ⟨h1, h2⟩ := List.nodup_cons.1 h
  have h3 := (List.nodup_append.1 h2).2.2
  refine ⟨fun q hq hm => ?_, fun q hq hm => ?_⟩
  · rcases List.mem_cons.1 hm with rfl | hm
    · exact h1 (by simp [hq])
    · exact h3 q hq q hm rfl
  · rcases List.mem_cons.1 hm with rfl | hm
    · exact h1 (by simp [hq])
    · exact h3 q hm q hq rfl
/-- the second table has become another one. -/
theorem di_two {w w' : World} {g : Nat} {L1 L2 L2' : List Nat} {v1 v2 : Value} {D D' : DS} (hT1 : TabAt w v1 D.T1 L1) (hnd : (g :: (L1 ++ L2)).Nodup) (hm : Moved w w' (g :: L2) (g :: L2')) (hnd' : (g :: L2').Nodup) (hT2 : TabAt w' v2 D'.T2 L2') (e1 : D'.T1 = D.T1)
    (hg : w'.heap[g]? = some (.cells (dca D'.seed v1 (cnt D'.T1 : Nat) v2 (cnt D'.T2 : Nat) (D'.ix : Nat)) 56)) : DI w' g (g :: (L1 ++ L2')) D' ∧ Moved w w' (g :: (L1 ++ L2)) (g :: (L1 ++ L2')) := by
  obtain ⟨a1, a2⟩ := nd_apart hnd
  have hlt := hT1.lt
  refine ⟨⟨v1, v2, L1, L2', hg, ?_, hT2, rfl, ?_⟩, ⟨hm.os, hm.tape, hm.output, hm.size, fun q hq hn => hm.rest q hq (fun hx => hn ?_), fun q hq => ?_⟩⟩
  · rw [e1]; exact hT1.keep (fun E hE => hm.rest E (hlt E hE) (a1 E hE))
  · obtain ⟨n1, n2⟩ := List.nodup_cons.1 hnd'
    obtain ⟨m1, m2⟩ := List.nodup_cons.1 (nd_part1 hnd)
    refine List.nodup_cons.2 ⟨fun hx => ?_, List.nodup_append.2 ⟨m2, n2, fun a ha b hb e => ?_⟩⟩
    · rcases List.mem_append.1 hx with hx | hx
      · exact m1 hx
      · exact n1 hx
    · subst e
      rcases hm.new a (by simp [hb]) with h | h
      · exact a1 a ha h
      · have := hlt a ha; omega
  · rcases List.mem_cons.1 hx with rfl | hx
    · simp
    · simp [hx]
  · rcases List.mem_cons.1 hq with rfl | hq
    · left; simp
    · rcases List.mem_append.1 hq with hq | hq
      · left; simp [hq]
      · rcases hm.new q (by simp [hq]) with h | h
        · left
          rcases List.mem_cons.1 h with rfl | h
          · simp
          · simp [h]
        · exact Or.inr h
theorem di_one {w w' : World} {g : Nat} {L1 L2 L1' : List Nat} {v1 v2 : Value} {D D' : DS} (hT2 : TabAt w v2 D.T2 L2) (hnd : (g :: (L1 ++ L2)).Nodup) (hm : Moved w w' (g :: L1) (g :: L1')) (hnd' : (g :: L1').Nodup) (hT1 : TabAt w' v1 D'.T1 L1') (e2 : D'.T2 = D.T2)
    (hg : w'.heap[g]? = some (.cells (dca D'.seed v1 (cnt D'.T1 : Nat) v2 (cnt D'.T2 : Nat) (D'.ix : Nat)) 56)) : DI w' g (g :: (L1' ++ L2)) D' ∧ Moved w w' (g :: (L1 ++ L2)) (g :: (L1' ++ L2)) := by
  obtain ⟨a1, a2⟩ := nd_apart hnd
  have hlt := hT2.lt
  refine ⟨⟨v1, v2, L1', L2, hg, hT1, ?_, rfl, ?_⟩, ⟨hm.os, hm.tape, hm.output, hm.size, fun q hq hn => hm.rest q hq (fun hx => hn ?_), fun q hq => ?_⟩⟩
  · rw [e2]; exact hT2.keep (fun E hE => hm.rest E (hlt E hE) (a2 E hE))
  · obtain ⟨n1, n2⟩ := List.nodup_cons.1 hnd'
    obtain ⟨m1, m2⟩ := List.nodup_cons.1 (nd_part2 hnd)
    refine List.nodup_cons.2 ⟨fun hx => ?_, List.nodup_append.2 ⟨n2, m2, fun a ha b hb e => ?_⟩⟩
    · rcases List.mem_append.1 hx with hx | hx
      · exact n1 hx
      · exact m1 hx
    · subst e
      rcases hm.new a (by simp [ha]) with h | h
      · exact a2 a hb h
      · have := hlt a hb; omega
  · rcases List.mem_cons.1 hx with rfl | hx
    · simp
    · simp [hx]
  · rcases List.mem_cons.1 hq with rfl | hq
    · left; simp
    · rcases List.mem_append.1 hq with hq | hq
      · rcases hm.new q (by simp [hq]) with h | h
        · left
          rcases List.mem_cons.1 h with rfl | h
          · simp
          · simp [h]
        · exact Or.inr h
      · left; simp [hq]
theorem di_add2 (g : Nat) (F : List Nat) (D : DS) (k : ByteArray) (v : Int) (w : World) (hwf : TWf D.seed D.T2) (hne : D.T2 ≠ []) (hn4 : D.T2.length ≤ 4398046511104) (hk : thas D.seed D.T2 k = false) (hc : cnt D.T2 ≤ 4398046511000) (h : DI w g F D) :
    Calls Try.prog 33 #[.pointer (some ⟨g, 3, none⟩), .int .i64 (hashT D.seed k), .agg #[.string k, .int .i64 v]] w fun e w' => e = .returned (.tuple #[]) ∧ ∃ F', DI w' g F' ⟨D.seed, D.T1, tadd D.seed D.T2 k v, D.ix⟩ ∧ Moved w w' F F' := by
  obtain ⟨v1, v2, L1, L2, h1, h2, h3, rfl, h4⟩ := h
  refine (add_tab D.seed g 3 k v D.T2 L2 _ v2 w hwf hne hn4 hk hc h1 rfl rfl h3 (nd_part2 h4)).mono ?_
  rintro e w' ⟨rfl, L', q1, q2, q3, q4⟩
  exact ⟨rfl, _, di_two h2 h4 q4 q3 (D := D) q2 rfl q1⟩
theorem di_add1 (g : Nat) (F : List Nat) (D : DS) (k : ByteArray) (v : Int) (w : World) (hwf : TWf D.seed D.T1) (hne : D.T1 ≠ []) (hn4 : D.T1.length ≤ 4398046511104) (hk : thas D.seed D.T1 k = false) (hc : cnt D.T1 ≤ 4398046511000) (h : DI w g F D) :
    Calls Try.prog 33 #[.pointer (some ⟨g, 1, none⟩), .int .i64 (hashT D.seed k), .agg #[.string k, .int .i64 v]] w fun e w' => e = .returned (.tuple #[]) ∧ ∃ F', DI w' g F' ⟨D.seed, tadd D.seed D.T1 k v, D.T2, D.ix⟩ ∧ Moved w w' F F' := by
  obtain ⟨v1, v2, L1, L2, h1, h2, h3, rfl, h4⟩ := h
  refine (add_tab D.seed g 1 k v D.T1 L1 _ v1 w hwf hne hn4 hk hc h1 rfl rfl h2 (nd_part1 h4)).mono ?_
  rintro e w' ⟨rfl, L', q1, q2, q3, q4⟩
  exact ⟨rfl, _, di_one h3 h4 q4 q3 (D := D) q2 rfl q1⟩
theorem di_drop1 (g : Nat) (F : List Nat) (D : DS) (k : ByteArray) (w : World) (hwf : TWf D.seed D.T1) (hn4 : D.T1.length ≤ 4398046511104) (hk : thas D.seed D.T1 k = true) (hc : cnt D.T1 ≤ 4398046511000) (h : DI w g F D) :
    Calls Try.prog 36 #[.pointer (some ⟨g, 1, none⟩), .int .i64 (hashT D.seed k), .string k] w fun e w' => e = .returned (.bool true) ∧ ∃ F', DI w' g F' ⟨D.seed, tdrop D.seed D.T1 k, D.T2, D.ix⟩ ∧ Moved w w' F F' := by
  obtain ⟨v1, v2, L1, L2, h1, h2, h3, rfl, h4⟩ := h
  refine (drop_tab D.seed g 1 k D.T1 L1 _ v1 w hwf hn4 hk hc h1 rfl rfl h2 (nd_part1 h4)).mono ?_
  rintro e w' ⟨rfl, L', q1, q2, q3, q4⟩
  exact ⟨rfl, _, di_one h3 h4 q4 q3 (D := D) q2 rfl q1⟩
theorem di_drop2 (g : Nat) (F : List Nat) (D : DS) (k : ByteArray) (w : World) (hwf : TWf D.seed D.T2) (hn4 : D.T2.length ≤ 4398046511104) (hk : thas D.seed D.T2 k = true) (hc : cnt D.T2 ≤ 4398046511000) (h : DI w g F D) :
    Calls Try.prog 36 #[.pointer (some ⟨g, 3, none⟩), .int .i64 (hashT D.seed k), .string k] w fun e w' => e = .returned (.bool true) ∧ ∃ F', DI w' g F' ⟨D.seed, D.T1, tdrop D.seed D.T2 k, D.ix⟩ ∧ Moved w w' F F' := by
  obtain ⟨v1, v2, L1, L2, h1, h2, h3, rfl, h4⟩ := h
  refine (drop_tab D.seed g 3 k D.T2 L2 _ v2 w hwf hn4 hk hc h1 rfl rfl h3 (nd_part2 h4)).mono ?_
  rintro e w' ⟨rfl, L', q1, q2, q3, q4⟩
  exact ⟨rfl, _, di_two h2 h4 q4 q3 (D := D) q2 rfl q1⟩
theorem Touch.weak {w w' : World} {g B : Nat} {bv : Value} (h : Touch w w' g B (.slice none 0 0)) : Touch w w' g B bv := ⟨h.os, h.tape, h.output, h.size, fun q hq a b _ => h.rest q hq a b (fun e => by cases e)⟩
theorem cnt_set (T : List (List Ent)) (i : Nat) (h : i < T.length) : cnt T = T[i].length + cnt (T.set i []) := by
  obtain ⟨R, p1, p2⟩ := set_flat T i h []
  unfold cnt; rw [p1.length_eq, p2.length_eq, List.length_append]; simp
theorem di_take (g : Nat) (F : List Nat) (D : DS) (i : Nat) (hi : i < D.T1.length) (hne : D.T1[i] ≠ []) (hc : cnt D.T1 ≤ 4398046511000) (w : World) (h : DI w g F D) :
    Calls Try.prog 49 #[.pointer (some ⟨g, 1, none⟩), .int .i64 (i : Int)] w fun e w' => ∃ E F', e = .returned (.slice (some ⟨E, 0, none⟩) D.T1[i].length D.T1[i].length) ∧ DI w' g F' ⟨D.seed, D.T1.set i [], D.T2, D.ix⟩ ∧ Moved w w' F F' ∧ E ∉ F' ∧ Ents w' E D.T1[i] ∧ E < w'.heap.size := by
  obtain ⟨v1, v2, L1, L2, h1, h2, h3, rfl, h4⟩ := h
  rcases h2 with ⟨_, e, _⟩ | ⟨B, bvs, rfl, hT, hI, rfl⟩
  · rw [e] at hi; simp at hi
  obtain ⟨bv, hbi, hbv⟩ := hI.each i hi
  rcases hbv with ⟨_, e⟩ | ⟨E, c, rfl, _, hbx⟩
  · exact absurd e hne
  have hle := len_le_cnt D.T1 i hi
  have hcs := cnt_set D.T1 i hi
  refine (take_any g 1 B D.T1.length i hi (some ⟨E, 0, none⟩) D.T1[i].length c (cnt D.T1) hbx.le hle (by omega) _ bvs w h1 rfl rfl hI.row hbi).mono ?_
  rintro e w' ⟨rfl, q1, q2, q3⟩
  obtain ⟨t1, t2, t3⟩ := tab_set (row_lt h1) hi hI hbi (nd_part1 h4) q2 (X := []) (Or.inl ⟨rfl, rfl⟩) (fun E' he => by cases he) q3.weak
  have hg2 : w'.heap[g]? = some (.cells (dca D.seed (.slice (some ⟨B, 0, none⟩) (D.T1.set i []).length (D.T1.set i []).length) (cnt (D.T1.set i []) : Nat) v2 (cnt D.T2 : Nat) (D.ix : Nat)) 56) := by
    rw [List.length_set, show ((cnt (D.T1.set i []) : Nat) : Int) = (cnt D.T1 : Int) - (D.T1[i].length : Int) by omega]
    exact q1
  have hne2 : D.T1.set i [] ≠ [] := ne_of_len (List.length_set ..) hT
  obtain ⟨d1, d2⟩ := di_one (D := D) (D' := ⟨D.seed, D.T1.set i [], D.T2, D.ix⟩) h3 h4 t3 t2 (Or.inr ⟨B, _, rfl, hne2, t1, rfl⟩) rfl hg2
  have hEm := bblocks_mem hbi (E := E) rfl
  have hEl := hbx.lt
  have hEB : E ≠ B ∧ E ≠ g := by
    obtain ⟨n1, n2⟩ := List.nodup_cons.1 (nd_part1 h4)
    exact ⟨fun e => (List.nodup_cons.1 n2).1 (e ▸ hEm), fun e => n1 (by rw [← e]; simp [hEm])⟩
  have hEk : w'.heap[E]? = w.heap[E]? := q3.rest E hEl hEB.2 hEB.1 (fun e => by cases e)
  refine ⟨E, _, rfl, d1, d2, ?_, (hbx.same hEk).ents, Nat.lt_of_lt_of_le hEl q3.size⟩
  obtain ⟨P, Q, s1, s2, s3⟩ := bblocks_split hbi
  have hnd3 := (List.nodup_cons.1 (List.nodup_cons.1 (nd_part1 h4)).2).2
  rw [s1] at hnd3
  have hno := nodup_ne (E := E) hnd3
  intro hm
  rcases List.mem_cons.1 hm with e | hm
  · exact hEB.2 e
  · rcases List.mem_append.1 hm with hm | hm
    · rcases List.mem_cons.1 hm with e | hm
      · exact hEB.1 e
      · rw [s2] at hm
        simp [Value.ownBlock] at hm
        rcases hm with hm | hm
        · exact hno.1 hm
        · exact hno.2 hm
    · exact (nd_apart h4).2 E hm (by simp [hEm])
/-- the move's end. -/
theorem di_end (g : Nat) (F : List Nat) (D : DS) (w : World) (h : DI w g F D) :
    Calls Try.prog 37 #[.pointer (some ⟨g, 0, none⟩)] w fun e w' => e = .returned (.tuple #[]) ∧ ∃ F', DI w' g F' (endD D) ∧ Moved w w' F F' := by
  have hh := h
  obtain ⟨v1, v2, L1, L2, h1, h2, h3, rfl, h4⟩ := h
  obtain ⟨c0, c1, c2, c3, c4, c5, cf⟩ := row6 h1
  obtain ⟨P, c, rfl⟩ := h3.form
  unfold endD
  by_cases hc : D.T2 ≠ [] ∧ cnt D.T1 = 0
  · rw [if_pos hc]
    have h1' := h1
    rw [hc.2] at h1'
    refine (end_done g D.seed v1 P D.T2.length c (List.length_pos_iff.2 hc.1) _ _ w h1').mono ?_
    rintro e w' ⟨rfl, q1, q2⟩
    refine ⟨rfl, g :: (L2 ++ []), ⟨_, _, L2, [], q1, ?_, Or.inl ⟨⟨_, _, rfl⟩, rfl, rfl⟩, rfl, ?_⟩, ⟨q2.os, q2.tape, q2.output, Nat.le_of_eq q2.size.symm, fun q hq hn => q2.other q (fun e => hn (by simp [e])), fun q hq => ?_⟩⟩
    · refine h3.keep (fun E hE => q2.other E (fun e => ?_))
      exact (nd_apart h4).2 E hE (by simp [e])
    · rw [List.append_nil]; exact nd_part2 h4
    · left
      rw [List.append_nil] at hq
      rcases List.mem_cons.1 hq with rfl | hq
      · simp
      · simp [hq]
  · rw [if_neg hc]
    refine (end_stay g P D.T2.length c (cnt D.T1) ?_ w c3 c2).mono ?_
    · by_cases h0 : D.T2 = []
      · left; rw [h0]; rfl
      · right; exact fun e => hc ⟨h0, e⟩
    · rintro e w' ⟨rfl, rfl⟩
      exact ⟨rfl, _, hh, Moved.refl _ _⟩
end Go.Proofs.Ytdemodhjlbkbeab
namespace Go.Proofs.Ytdemodhjlbkbeab
open Go.RowKit
set_option linter.unusedVariables false
set_option maxHeartbeats 1000000 in
set_option maxRecDepth 100000 in
/-- drop where the key is not there. -/
theorem drop_no (seed : Int) (g o : Nat) (k : ByteArray) (T : List (List Ent)) (L : List Nat) (tv : Value) (w : World) (hwf : TWf seed T) (hn4 : T.length ≤ 4398046511104) (hk : thas seed T k = false) (hc : cnt T ≤ 4398046511000) (hc0 : w.cell? ⟨g, o, none⟩ = some tv) (hT : TabAt w tv T L) :
    Calls Try.prog 36 #[.pointer (some ⟨g, o, none⟩), .int .i64 (hashT seed k), .string k] w fun e w' => e = .returned (.bool false) ∧ Below w.heap.size w w' := by
  have HP : Hid (∃ a b : Int, Calls Try.prog 54 #[.pointer (some ⟨g, o, none⟩), .int .i64 (hashT seed k), .string k] w fun e w' => e = .returned (.tuple #[.int .i64 a, .int .i64 b, .bool false]) ∧ Below w.heap.size w w') := by
    rcases hT with ⟨⟨P0, c0', rfl⟩, rfl, _⟩ | ⟨B, bvs, rfl, hne, hI, rfl⟩
    · exact ⟨0, 0, (place_nil g o P0 c0' _ k w hc0).mono (fun e w' ⟨h1, h2⟩ => ⟨h1, by rw [h2]; exact Below.refl _ _⟩)⟩
    · have hl := TWf.lt (seed := seed) hne k
      obtain ⟨j, hj1, hj2, hj3⟩ := hwf.pow' hne hn4
      obtain ⟨bv, hbi, hbv⟩ := hI.each _ hl
      have hle := len_le_cnt T _ hl
      have hht : hit T[hN seed k % T.length] k = false := by rw [← thas_eq hl]; exact hk
      have q := place_any g o B T.length _ (List.length_pos_iff.2 hne) hn4 hl _ (hN_and seed k j hj2 _ hj3) k bv _ (hwf.rise _ hl) (by omega) w hc0 (by rw [cell_of_row _ _ _ _ _ _ hI.row]; exact hbi) hbv.bkt
      rw [hht] at q
      exact ⟨_, _, q⟩
  obtain ⟨a, b, hp⟩ := HP.out
  have HPL : Hid _ := hp
  clear hp HP hc0 hT
  go_enter Try.func36, Try.ntmps36
  go_wp2_with fail
  refine (show Calls _ _ _ _ _ from HPL.out).mono ?_
  rintro e w1 ⟨rfl, hb1⟩
  have HB : Hid (Below w.heap.size w w1) := hb1
  clear hb1
  go_wp2
  go_returns
  exact ⟨rfl, HB.out⟩
theorem set_same {bvs : Array Value} {i : Nat} {bv : Value} (h : bvs[i]? = some bv) : bvs.setIfInBounds i bv = bvs := by
  apply Array.ext_getElem?
  intro j
  rw [Array.getElem?_setIfInBounds]
  split
  · next e =>
    subst e
    split
    · exact h.symm
    · next hx => rw [Array.getElem?_eq_none (by omega)] at h; cases h
  · rfl
/-- an entry's value written over. -/
theorem put_tab {w : World} {v : Value} {T : List (List Ent)} {L : List Nat} {seed : Int} {k : ByteArray} {E q : Nat} (x : Int) (hl : Lies w T L seed k E q) (hT : TabAt w v T L) (hnd : L.Nodup) (hk : thas seed T k = true) :
    TabAt (w.setCell ⟨E, q + 1, none⟩ (.int .i64 x)) v (tput seed T k x) L ∧ E ∈ L ∧ w.frozen? ⟨E, q + 1, none⟩ = false ∧ ∃ y, w.cell? ⟨E, q + 1, none⟩ = some (.int .i64 y) ∧ (k, y) ∈ T.flatten := by
  obtain ⟨B, bvs, c, hL, hI, hl, hbi, hbx, rfl⟩ := hl
  rcases hT with ⟨_, rfl, _⟩ | ⟨B', bvs', rfl, hne, _, hL'⟩
  · simp at hl
  have hB : B' = B := by rw [hL] at hL'; injection hL' with h _; exact h.symm
  subst hB
  subst hL
  have hht : hit T[hN seed k % T.length] k = true := by rw [← thas_eq hl]; exact hk
  obtain ⟨v0, s1, s2, s3⟩ := hit_split hht
  have hEm := bblocks_mem hbi (E := E) rfl
  obtain ⟨hBn, hn2⟩ := List.nodup_cons.1 hnd
  have hEB : B' ≠ E := fun e => hBn (e ▸ hEm)
  obtain ⟨cur, hrow, hcs⟩ := hbx.row
  obtain ⟨hes, heq⟩ := List.getElem?_eq_some_iff.1 s2
  have hen := hbx.ents _ s3
  rw [heq] at hen
  refine ⟨?_, by simp [hEm], frozen_of_row _ _ _ _ _ hrow, v0, hen.2, List.mem_flatten.2 ⟨_, List.getElem_mem hl, by rw [s1]; simp⟩⟩
  obtain ⟨W, hW⟩ : ∃ W, W = w.setCell ⟨E, lb T[hN seed k % T.length] k * 2 + 1, none⟩ (.int .i64 x) := ⟨_, rfl⟩
  rw [← hW]
  have hWE : W.heap[E]? = some (.cells (cur.setIfInBounds (lb T[hN seed k % T.length] k * 2 + 1) (.int .i64 x)) 70) := by rw [hW, heap_setCell_same _ _ _ _ _ _ hrow]
  have hWo : ∀ q, q ≠ E → W.heap[q]? = w.heap[q]? := fun q hq => by rw [hW]; exact heap_setCell_other _ _ _ _ hq
  have hlen : (putL T[hN seed k % T.length] k x).length = T[hN seed k % T.length].length := by simp [putL]
  have hle := hbx.le
  have hbx' : Bx W E c (putL T[hN seed k % T.length] k x) := by
    refine ⟨⟨_, hWE, by simpa using hcs⟩, by rw [hlen]; exact hle, hbx.max, fun t ht => ?_⟩
    rw [hlen] at ht
    have q := hbx.ents t ht
    rw [cell_of_row _ _ _ _ _ _ hrow, cell_of_row _ _ _ _ _ _ hrow] at q
    rw [cell_of_row _ _ _ _ _ _ hWE, cell_of_row _ _ _ _ _ _ hWE, Array.getElem?_setIfInBounds, Array.getElem?_setIfInBounds, if_neg (by omega)]
    by_cases ht2 : t = lb T[hN seed k % T.length] k
    · subst ht2
      rw [if_pos rfl, if_pos (by omega)]
      refine ⟨?_, by simp [putL]⟩
      rw [q.1, heq]; simp [putL]
    · rw [if_neg (by omega)]
      have e : (putL T[hN seed k % T.length] k x)[t]'(by rw [hlen]; exact ht) = T[hN seed k % T.length][t] := by
        unfold putL; rw [List.getElem_set_ne (Ne.symm ht2)]
      rw [e]; exact q
  have hset := hI.set (W' := W) (i := hN seed k % T.length) (bv' := .slice (some ⟨E, 0, none⟩) T[hN seed k % T.length].length c) (es' := putL T[hN seed k % T.length] k x) hl (by rw [set_same hbi, hWo B' hEB]; exact hI.row) (Or.inr ⟨E, c, by rw [hlen], ⟨Nat.zero_le _, fun e => by rw [e] at hlen; simp at hlen; omega⟩, hbx'⟩) (fun j hj hji b hb E' hE' => hWo E' (fun e => ?_))
  · rw [set_same hbi] at hset
    exact Or.inr ⟨B', bvs, by rw [tput_len], ne_of_len (tput_len ..) hne, by rw [tput_eq x hl]; exact hset, rfl⟩
  · subst e
    obtain ⟨P, Q, z1, z2, z3⟩ := bblocks_split hbi
    rw [z1] at hn2
    have := nodup_ne (E := E') hn2
    rcases z3 j b E' hji hb hE' with h | h
    · exact this.1 h
    · exact this.2 h
/-- where a dict's entry lies. -/
def LiesD (w : World) (D : DS) (k : ByteArray) (E q : Nat) (L1 L2 : List Nat) : Prop :=
  (thas D.seed D.T1 k = true ∧ Lies w D.T1 L1 D.seed k E q) ∨ (thas D.seed D.T1 k = false ∧ thas D.seed D.T2 k = true ∧ Lies w D.T2 L2 D.seed k E q)
theorem TabAt.on {W W' : World} {v : Value} {T : List (List Ent)} {L : List Nat} (h : TabAt W v T L) (hb : Below W.heap.size W W') : TabAt W' v T L := h.keep (fun E hE => hb.block E (h.lt E hE))
theorem di_find_no (g : Nat) (F : List Nat) (D : DS) (k : ByteArray) (w : World) (hD : DInv D) (hc : cnt D.T1 + cnt D.T2 ≤ 4398046511000) (hk : D.has k = false) (h : DI w g F D) :
    Calls Try.prog 29 #[.pointer (some ⟨g, 0, none⟩), .int .i64 (hashT D.seed k), .string k] w fun e w' => e = .returned (.pointer none) ∧ Below w.heap.size w w' := by
  unfold DS.has at hk
  rw [Bool.or_eq_false_iff] at hk
  obtain ⟨v1, v2, L1, L2, h1, h2, h3, rfl, h4⟩ := h
  obtain ⟨c0, c1, c2, c3, c4, c5, cf⟩ := row6 h1
  refine find_second g _ k (.pointer none) w (find_tab_no D.seed g 1 k D.T1 L1 v1 w hD.wf1 hD.sz1 hk.1 (by omega) c1 h2) (fun W hW => find_tab_no D.seed g 3 k D.T2 L2 v2 W hD.wf2 hD.sz2 hk.2 (by omega) (cell_on c3 hW) (h3.on hW))
theorem Lies.on {W W' : World} {T : List (List Ent)} {L : List Nat} {seed : Int} {k : ByteArray} {E q : Nat} (h : Lies W T L seed k E q) (hb : Below W.heap.size W W') : Lies W' T L seed k E q := by
  obtain ⟨B, bvs, c, rfl, hI, hl, h1, h2, h3⟩ := h
  exact ⟨B, bvs, c, rfl, hI.keep (hb.block B (row_lt hI.row)) (fun E hE => hb.block E (hI.lt E hE)), hl, h1, h2.on hb, h3⟩
theorem di_find_yes (g : Nat) (F : List Nat) (D : DS) (k : ByteArray) (w : World) (hD : DInv D) (hc : cnt D.T1 + cnt D.T2 ≤ 4398046511000) (hk : D.has k = true) (h : DI w g F D) :
    ∃ E q, Calls Try.prog 29 #[.pointer (some ⟨g, 0, none⟩), .int .i64 (hashT D.seed k), .string k] w fun e w' => e = .returned (.pointer (some ⟨E, q, none⟩)) ∧ Below w.heap.size w w' ∧ ∃ v1 v2 L1 L2, w'.heap[g]? = some (.cells (dca D.seed v1 (cnt D.T1 : Nat) v2 (cnt D.T2 : Nat) (D.ix : Nat)) 56) ∧ TabAt w' v1 D.T1 L1 ∧ TabAt w' v2 D.T2 L2 ∧ F = g :: (L1 ++ L2) ∧ F.Nodup ∧ LiesD w' D k E q L1 L2 := by
  obtain ⟨v1, v2, L1, L2, h1, h2, h3, rfl, h4⟩ := h
  obtain ⟨c0, c1, c2, c3, c4, c5, cf⟩ := row6 h1
  rcases ha : thas D.seed D.T1 k with _ | _
  · have hb : thas D.seed D.T2 k = true := by unfold DS.has at hk; rw [ha, Bool.false_or] at hk; exact hk
    obtain ⟨E, q, hl, hf⟩ := find_tab_yes D.seed g 3 k D.T2 L2 v2 w hD.wf2 hD.sz2 hb (by omega) c3 h3
    refine ⟨E, q, (find_second g _ k (.pointer (some ⟨E, q, none⟩)) w (find_tab_no D.seed g 1 k D.T1 L1 v1 w hD.wf1 hD.sz1 ha (by omega) c1 h2) (fun W hW => ?_)).mono (fun e w' ⟨x1, x2⟩ => ⟨x1, x2, v1, v2, L1, L2, keep_row h1 x2, h2.on x2, h3.on x2, rfl, h4, Or.inr ⟨ha, hb, hl.on x2⟩⟩)⟩
    obtain ⟨B, bvs, c, rfl, hI, hl1, hl2, hl3, hl4⟩ := hl.on hW
    have hht : hit D.T2[hN D.seed k % D.T2.length] k = true := by rw [← thas_eq hl1]; exact hb
    have hne := lt_ne hl1
    obtain ⟨j, hj1, hj2, hj3⟩ := hD.wf2.pow' hne hD.sz2
    have hle := len_le_cnt D.T2 _ hl1
    have hv2 : v2 = .slice (some ⟨B, 0, none⟩) D.T2.length D.T2.length := by
      rcases h3 with ⟨_, e, _⟩ | ⟨B', bvs', rfl, _, _, hL'⟩
      · exact absurd e hne
      · injection hL' with hx _; rw [hx]
    subst hv2
    have := tfind_hit g 3 B D.T2.length _ E c (List.length_pos_iff.2 hne) hD.sz2 hl1 _ (hN_and D.seed k j hj2 _ hj3) k _ (hD.wf2.rise _ hl1) (by omega) W (cell_on c3 hW) (by rw [cell_of_row _ _ _ _ _ _ hI.row]; exact hl2) hl3.le hl3.ents hht (hit_lt _ _ hht)
    rw [← hl4] at this
    exact this
  · obtain ⟨E, q, hl, hf⟩ := find_tab_yes D.seed g 1 k D.T1 L1 v1 w hD.wf1 hD.sz1 ha (by omega) c1 h2
    exact ⟨E, q, (find_first g _ k ⟨E, q, none⟩ w hf).mono (fun e w' ⟨x1, x2⟩ => ⟨x1, x2, v1, v2, L1, L2, keep_row h1 x2, h2.on x2, h3.on x2, rfl, h4, Or.inl ⟨ha, hl.on x2⟩⟩)⟩
end Go.Proofs.Ytdemodhjlbkbeab
namespace Go.Proofs.Ytdemodhjlbkbeab
open Go.RowKit
set_option linter.unusedVariables false
theorem made_get (z : Value) (n j : Nat) (h : j < n) : (madeCells #[z] n)[j]? = some z := by
  have : (madeCells #[z] n).toList[j]? = some z := by rw [toList_madeCells_one, List.getElem?_replicate, if_pos h]
  rwa [Array.getElem?_toList] at this
theorem made_blocks (n : Nat) : bblocks (madeCells #[.slice none 0 0] n) = [] := by
  unfold bblocks; rw [toList_madeCells_one, List.filterMap_eq_nil_iff]
  intro a ha; rw [List.eq_of_mem_replicate ha]; rfl
theorem tab_new {W : World} {B n : Nat} (hn : 0 < n) (hB : W.heap[B]? = some (.cells (madeCells #[.slice none 0 0] n) 83)) : TabAt W (.slice (some ⟨B, 0, none⟩) n n) (List.replicate n []) [B] := by
  refine Or.inr ⟨B, _, by rw [List.length_replicate], fun e => ?_, TabIs.new hB (Nat.zero_le _) (size_madeCells _ _) (made_get _ n), by rw [made_blocks]⟩
  have := congrArg List.length e
  simp at this; omega
theorem made_four : madeCells #[.slice none 0 0] 4 = #[.slice none 0 0, .slice none 0 0, .slice none 0 0, .slice none 0 0] := by
  apply Array.toList_inj.1
  rw [toList_madeCells_one]; rfl
/-- the second table is a new one. -/
theorem di_begun {w w' : World} {g : Nat} {F L1 L2 : List Nat} {v1 v2 : Value} {D : DS} {B2 s : Nat} (hs : 0 < s) (hT1 : TabAt w v1 D.T1 L1) (hnd : (g :: (L1 ++ L2)).Nodup) (hgl : g < w.heap.size) (hB : w.heap.size ≤ B2) (hg : w'.heap[g]? = some (.cells (dca D.seed v1 (cnt D.T1 : Nat) (.slice (some ⟨B2, 0, none⟩) s s) 0 0) 56)) (hB2 : w'.heap[B2]? = some (.cells (madeCells #[.slice none 0 0] s) 83)) (hsz : w.heap.size ≤ w'.heap.size) (hrest : ∀ q, q < w.heap.size → q ≠ g → w'.heap[q]? = w.heap[q]?) (hb : Below g w w') :
    DI w' g (g :: (L1 ++ [B2])) ⟨D.seed, D.T1, List.replicate s [], 0⟩ ∧ Moved w w' (g :: (L1 ++ L2)) (g :: (L1 ++ [B2])) := by
  have hlt := hT1.lt
  obtain ⟨n1, n2⟩ := List.nodup_cons.1 (nd_part1 hnd)
  refine ⟨⟨v1, _, L1, [B2], ?_, hT1.keep (fun E hE => hrest E (hlt E hE) (fun e => n1 (e ▸ hE))), tab_new hs hB2, rfl, ?_⟩, ⟨hb.os, hb.tape, hb.output, hsz, fun q hq hn => hrest q hq (fun e => hn (by simp [e])), fun q hq => ?_⟩⟩
  · show w'.heap[g]? = some (.cells (dca D.seed v1 (cnt D.T1 : Nat) _ (cnt (List.replicate s []) : Nat) ((0 : Nat) : Int)) _)
    rw [show cnt (List.replicate s []) = 0 by unfold cnt; simp]; exact hg
  · refine List.nodup_cons.2 ⟨fun hm => ?_, List.nodup_append.2 ⟨n2, by simp, fun a ha b hb e => ?_⟩⟩
    · rcases List.mem_append.1 hm with hm | hm
      · exact n1 hm
      · simp at hm; omega
    · simp at hb; have := hlt a ha; omega
  · rcases List.mem_cons.1 hq with rfl | hq
    · left; simp
    · rcases List.mem_append.1 hq with hq | hq
      · left; simp [hq]
      · right; simp at hq; omega
/-- the first table is a new one, and there is no second. -/
theorem di_fresh {w w' : World} {g : Nat} {L1 L2 : List Nat} {D : DS} {B s ix : Nat} {P2 : Option Addr} {k2 : Nat} (hs : 0 < s) (hgl : g < w.heap.size) (hB : w.heap.size ≤ B) (hg : w'.heap[g]? = some (.cells (dca D.seed (.slice (some ⟨B, 0, none⟩) s s) 0 (.slice P2 0 k2) 0 (ix : Nat)) 56)) (hB2 : w'.heap[B]? = some (.cells (madeCells #[.slice none 0 0] s) 83)) (hsz : w.heap.size ≤ w'.heap.size) (hrest : ∀ q, q < w.heap.size → q ≠ g → w'.heap[q]? = w.heap[q]?) (hb : Below g w w') :
    DI w' g (g :: ([B] ++ [])) ⟨D.seed, List.replicate s [], [], ix⟩ ∧ Moved w w' (g :: (L1 ++ L2)) (g :: ([B] ++ [])) := by
  refine ⟨⟨_, .slice P2 0 k2, [B], [], ?_, tab_new hs hB2, Or.inl ⟨⟨P2, k2, rfl⟩, rfl, rfl⟩, rfl, ?_⟩, ⟨hb.os, hb.tape, hb.output, hsz, fun q hq hn => hrest q hq (fun e => hn (by simp [e])), fun q hq => ?_⟩⟩
  · show w'.heap[g]? = some (.cells (dca D.seed _ (cnt (List.replicate s []) : Nat) _ (cnt [] : Nat) (ix : Nat)) _)
    rw [show cnt (List.replicate s []) = 0 by unfold cnt; simp]; exact hg
  · simp; omega
  · simp at hq
    rcases hq with rfl | rfl
    · left; simp
    · exact Or.inr hB
theorem di_room (g : Nat) (F : List Nat) (D : DS) (hD : DInv D) (hc : cnt D.T1 + cnt D.T2 < 4398046511000) (w : World) (h : DI w g F D) :
    Calls Try.prog 30 #[.pointer (some ⟨g, 0, none⟩)] w fun e w' => e = .returned (.tuple #[]) ∧ ∃ F', DI w' g F' (roomD D) ∧ Moved w w' F F' := by
  obtain ⟨v1, v2, L1, L2, h1, h2, h3, rfl, h4⟩ := id h
  unfold roomD
  by_cases ht : D.T1 = []
  · rw [if_pos ht]
    have ht2 : D.T2 = [] := Decidable.byContradiction fun hm => by
      have := hD.mv hm
      rw [ht] at this
      simp [cnt] at this
    rw [ht2]
    rcases h2 with ⟨⟨P1, k1, rfl⟩, _, rfl⟩ | ⟨_, _, _, hx, _⟩
    · rcases h3 with ⟨⟨P3, k3, rfl⟩, _, rfl⟩ | ⟨_, _, _, hx, _⟩
      · rw [show cnt D.T1 = 0 by rw [ht]; rfl, show cnt D.T2 = 0 by rw [ht2]; rfl] at h1
        refine (room_first g D.seed P1 k1 _ _ _ _ w h1).mono ?_
        rintro e w' ⟨rfl, B, q1, q2, q3, q4, q5, q6⟩
        exact ⟨rfl, _, di_fresh (s := 4) (by omega) (row_lt h1) q1 q2 (by rw [made_four]; exact q3) q4 q5 q6⟩
      · exact absurd ht2 hx
    · exact absurd ht hx
  · rw [if_neg ht]
    rcases h2 with ⟨_, hx, _⟩ | ⟨B, bvs, rfl, _, hI, rfl⟩
    · exact absurd hx ht
    have hpos := List.length_pos_iff.2 ht
    obtain ⟨P, c, rfl⟩ := h3.form
    by_cases hm : D.T2 = []
    · have h1' := h1
      rw [hm] at h1'
      by_cases hl : D.T1.length ≤ cnt D.T1
      · rw [if_pos ⟨hm, hl⟩]
        obtain ⟨j, hj1, hj2, hj3⟩ := T1_pow hD ht
        have hj4 : j ≤ 41 := by
          rcases Nat.lt_or_ge j 42 with h3 | h3
          · omega
          · have : j = 42 := by omega
            subst this
            omega
        have hp : 2 ^ j ≤ 2 ^ 41 := Nat.pow_le_pow_right (by omega) hj4
        refine (room_grow g B D.T1.length hpos (by omega) D.seed (cnt D.T1) hl (by omega) P c _ _ w h1').mono ?_
        rintro e w' ⟨rfl, B2, q1, q2, q3, q4, q5, q6⟩
        have hb : beginD D (2 * D.T1.length) = ⟨D.seed, D.T1, List.replicate (2 * D.T1.length) [], 0⟩ := by
          unfold beginD endD; rw [if_neg (fun hx => by have := hx.2; simp only at this; omega)]
        rw [hb]
        exact ⟨rfl, _, di_begun (v2 := .slice P D.T2.length c) (F := []) (by omega) (Or.inr ⟨B, bvs, rfl, ht, hI, rfl⟩) h4 (row_lt h1) q1 q2 q3 q4 q5 q6⟩
      · rw [if_neg (fun hx => hl hx.2)]
        refine (room_enough g B D.T1.length hpos D.seed (cnt D.T1) (by omega) P c _ _ w h1').mono ?_
        rintro e w' ⟨rfl, rfl⟩
        exact ⟨rfl, _, h, Moved.refl _ _⟩
    · rw [if_neg (fun hx => hm hx.1)]
      refine (room_moving g B D.T1.length hpos D.seed _ P D.T2.length c (List.length_pos_iff.2 hm) _ _ w h1).mono ?_
      rintro e w' ⟨rfl, rfl⟩
      exact ⟨rfl, _, h, Moved.refl _ _⟩
theorem di_give (g : Nat) (F : List Nat) (D : DS) (hD : DInv D) (ht : D.T1 ≠ []) (hc : cnt D.T1 + cnt D.T2 < 4398046511000) (w : World) (h : DI w g F D) :
    Calls Try.prog 38 #[.pointer (some ⟨g, 0, none⟩)] w fun e w' => e = .returned (.tuple #[]) ∧ ∃ F', DI w' g F' (giveD D) ∧ Moved w w' F F' := by
  obtain ⟨v1, v2, L1, L2, h1, h2, h3, rfl, h4⟩ := id h
  unfold giveD
  rcases h2 with ⟨_, hx, _⟩ | ⟨B, bvs, rfl, _, hI, rfl⟩
  · exact absurd hx ht
  obtain ⟨P, c, rfl⟩ := h3.form
  have hsz := hD.sz1
  by_cases hm : D.T2 = []
  · have h1' := h1
    rw [hm] at h1'
    by_cases hk : D.T1.length ≤ 4 ∨ D.T1.length / 8 < cnt D.T1
    · rw [if_pos (Or.inr hk)]
      refine (give_keep g B D.T1.length hsz D.seed (cnt D.T1) hk P c _ _ w h1').mono ?_
      rintro e w' ⟨rfl, rfl⟩
      exact ⟨rfl, _, h, Moved.refl _ _⟩
    · rw [if_neg (fun hx => by rcases hx with hx | hx; exact hx hm; exact hk hx)]
      rw [not_or] at hk
      refine (give_shrink g B D.T1.length (by omega) hsz D.seed (cnt D.T1) (by omega) P c _ _ w h1').mono ?_
      rintro e w' ⟨rfl, s, B2, u, q1, q2, q3, q4, q5, q6⟩
      have hs : s = upS (cnt D.T1) := by
        obtain ⟨i, u1, u2, u3⟩ := upS_ok (cnt D.T1)
        exact u.uniq ⟨i, u1, u2, u3⟩
      subst hs
      have hs0 : 0 < upS (cnt D.T1) := by
        obtain ⟨i, u1, u2, u3⟩ := upS_ok (cnt D.T1)
        have := Nat.two_pow_pos i
        omega
      have hne : List.replicate (upS (cnt D.T1)) ([] : List Ent) ≠ [] := fun e => by have := congrArg List.length e; simp at this; omega
      by_cases h0 : cnt D.T1 = 0
      · rw [h0] at q2 q3 hs0 hne ⊢
        rw [dcs_0] at q2
        have hb : beginD D (upS 0) = ⟨D.seed, List.replicate (upS 0) [], [], 0⟩ := by
          unfold beginD endD; rw [if_pos ⟨hne, h0⟩]
        rw [hb]
        exact ⟨rfl, _, di_fresh (ix := 0) hs0 (row_lt h1) q1 q2 q3 q4 q5 q6⟩
      · rw [dcs_k _ _ _ _ _ _ h0] at q2
        have hb : beginD D (upS (cnt D.T1)) = ⟨D.seed, D.T1, List.replicate (upS (cnt D.T1)) [], 0⟩ := by
          unfold beginD endD; rw [if_neg (fun hx => h0 hx.2)]
        rw [hb]
        exact ⟨rfl, _, di_begun (v2 := .slice P D.T2.length c) (F := []) hs0 (Or.inr ⟨B, bvs, rfl, ht, hI, rfl⟩) h4 (row_lt h1) q1 q2 q3 q4 q5 q6⟩
  · rw [if_pos (Or.inl hm)]
    refine (give_moving g B D.T1.length D.seed _ P D.T2.length c (List.length_pos_iff.2 hm) _ _ w h1).mono ?_
    rintro e w' ⟨rfl, rfl⟩
    exact ⟨rfl, _, h, Moved.refl _ _⟩
theorem di_moves (g : Nat) (F : List Nat) (D : DS) (w : World) (h : DI w g F D) :
    Calls Try.prog 32 #[.pointer (some ⟨g, 0, none⟩)] w fun e w' => e = .returned (.bool (decide (D.T2 ≠ []))) ∧ w' = w := by
  obtain ⟨v1, v2, L1, L2, h1, h2, h3, rfl, h4⟩ := h
  obtain ⟨P, c, rfl⟩ := h3.form
  have c3 := (row6 h1).2.2.2.1
  by_cases hm : D.T2 = []
  · rw [hm] at c3 ⊢
    exact moves_no g P c w c3
  · rw [show decide (D.T2 ≠ []) = true by simpa using hm]
    exact moves_yes g P D.T2.length c (List.length_pos_iff.2 hm) w c3
end Go.Proofs.Ytdemodhjlbkbeab
