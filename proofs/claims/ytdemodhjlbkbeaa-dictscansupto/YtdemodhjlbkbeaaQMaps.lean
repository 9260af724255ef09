import Derived.Test.YtdemodhjlbkbeaaQM
import Derived.Sort.Walk0
import Derived.Test.YtdemodhjlbkbeaaQMeasure
namespace Go.Proofs.Ytdemodhjlbkbeaa
open Go.RowKit
set_option linter.unusedVariables false
theorem split_at (kl : List Ent) (j : Nat) (h : j < kl.length) : kl.Perm (kl[j] :: (kl.take j ++ kl.drop (j + 1))) := by
  conv => lhs; rw [← List.take_append_drop j kl, List.drop_eq_getElem_cons h]
  exact List.perm_middle
theorem set_at (kl : List Ent) (j : Nat) (h : j < kl.length) (x : Ent) : (kl.set j x).Perm (x :: (kl.take j ++ kl.drop (j + 1))) := by
  rw [List.set_eq_take_append_cons_drop, if_pos h]
  exact List.perm_middle
theorem swap_at (kl : List Ent) (j : Nat) (h : j < kl.length) : ((kl.set j (kl[kl.length - 1]'(by omega))).take (kl.length - 1)).Perm (kl.take j ++ kl.drop (j + 1)) := by
  rw [List.set_eq_take_append_cons_drop, if_pos h]
  by_cases he : j = kl.length - 1
  · have h1 : kl.drop (j + 1) = [] := List.drop_eq_nil_of_le (by omega)
    rw [h1, List.append_nil, List.take_append_of_le_length (by rw [List.length_take]; omega), List.take_take, Nat.min_eq_left (by omega), ← he]
  · have h2 : kl.drop (j + 1) = (kl.drop (j + 1)).take (kl.length - 1 - (j + 1)) ++ [kl[kl.length - 1]'(by omega)] := by
      conv => lhs; rw [← List.take_append_drop (kl.length - 1 - (j + 1)) (kl.drop (j + 1))]
      congr 1
      rw [List.drop_drop, show j + 1 + (kl.length - 1 - (j + 1)) = kl.length - 1 by omega, List.drop_eq_getElem_cons (by omega), List.drop_eq_nil_of_le (by omega)]
    have h3 : (kl.take j ++ (kl[kl.length - 1]'(by omega)) :: kl.drop (j + 1)).take (kl.length - 1) = kl.take j ++ (kl[kl.length - 1]'(by omega)) :: (kl.drop (j + 1)).take (kl.length - 1 - (j + 1)) := by
      rw [List.take_append, List.length_take, Nat.min_eq_left (by omega), List.take_of_length_le (by rw [List.length_take]; omega)]
      rw [show kl.length - 1 - j = (kl.length - 1 - (j + 1)) + 1 by omega, List.take_succ_cons]
    rw [h3]
    conv => rhs; rw [h2]
    refine List.Perm.append_left _ ?_
    exact (List.perm_append_singleton _ _).symm
/-- one key has one value. -/
theorem one_val {l : List Ent} (hn : (l.map (·.1)).Nodup) {k : ByteArray} {a b : Int} (h1 : (k, a) ∈ l) (h2 : (k, b) ∈ l) : a = b := by
  induction l with
  | nil => cases h1
  | cons x l ih =>
    rw [List.map_cons, List.nodup_cons] at hn
    rcases List.mem_cons.1 h1 with e1 | h1
    · rcases List.mem_cons.1 h2 with e2 | h2
      · rw [← e1] at e2; exact (Prod.mk.inj e2).2.symm
      · exact absurd (List.mem_map.2 ⟨_, h2, by rw [← e1]⟩) hn.1
    · rcases List.mem_cons.1 h2 with e2 | h2
      · exact absurd (List.mem_map.2 ⟨_, h1, by rw [← e2]⟩) hn.1
      · exact ih hn.2 h1 h2
theorem nodup_of {D : DS} {kl : List Ent} (h : DInv D) (hp : D.all.Perm kl) : (kl.map (·.1)).Nodup := by
  rw [← (hp.map _).nodup_iff]; exact h.nd
theorem rest_perm {D : DS} {kl R : List Ent} (h : DInv D) (hp : D.all.Perm kl) {k : ByteArray} {v0 : Int} (hr : D.all.Perm ((k, v0) :: R)) {j : Nat} (hj : j < kl.length) (hk : kl[j].1 = k) : R.Perm (kl.take j ++ kl.drop (j + 1)) := by
  have h1 : kl.Perm ((k, v0) :: R) := hp.symm.trans hr
  have hm : (k, v0) ∈ kl := h1.mem_iff.2 (by simp)
  have hm2 : (k, kl[j].2) ∈ kl := by
    have := List.getElem_mem hj
    rw [← hk]; exact this
  have hv : v0 = kl[j].2 := one_val (nodup_of h hp) hm hm2
  have h2 := split_at kl j hj
  have e : kl[j] = (k, v0) := by rw [hv, ← hk]
  rw [e] at h2
  exact (List.Perm.cons_inv (h1.symm.trans h2))
/-- where a key stands. -/
def AtIs (kl : List Ent) (k : ByteArray) (n : Nat) (at_ : Int) : Prop := (at_ = -1 ∧ ∀ t (h : t < kl.length), t < n → kl[t].1 ≠ k) ∨ ∃ j, ∃ h : j < kl.length, j < n ∧ at_ = (j : Int) ∧ kl[j].1 = k
theorem AtIs.none {kl : List Ent} {k : ByteArray} (h : AtIs kl k kl.length (-1)) : k ∉ kl.map (·.1) := by
  rcases h with ⟨_, h⟩ | ⟨j, _, _, e, _⟩
  · intro hm
    obtain ⟨x, hx, rfl⟩ := List.mem_map.1 hm
    obtain ⟨t, ht, rfl⟩ := List.mem_iff_getElem.1 hx
    exact h t ht ht rfl
  · omega
def rowN (kl : List Ent) : List Value := kl.map fun e => .int .i64 e.2
theorem own_block {w w' : World} {base e size : Nat} {v : Value} {n : Nat} {xs : List Value} (h : w.ownsRow base e size v n xs) (hk : ∀ k, v.ownBlock = some k → w'.heap[k]? = w.heap[k]?) : w'.ownsRow base e size v n xs := by
  refine ⟨h.1, ?_⟩
  rcases h.2 with h1 | ⟨g, cap, cur, rfl, hb, hg, r⟩
  · exact Or.inl h1
  · exact Or.inr ⟨g, cap, cur, rfl, hb, by rw [hk g rfl]; exact hg, r⟩
theorem own_type {w : World} {base e size : Nat} {v : Value} {n : Nat} {xs : List Value} (h : w.ownsRow base e size v n xs) {g : Nat} (hg : v.ownBlock = some g) : ∃ cur, w.heap[g]? = some (.cells cur e (0, 0)) := by
  rcases h.2 with ⟨rfl, _⟩ | ⟨g', cap, cur, rfl, _, hr, _⟩
  · cases hg
  · have : g' = g := by simpa [Value.ownBlock] using hg
    subst this; exact ⟨cur, hr⟩
theorem DI.types {w : World} {g : Nat} {F : List Nat} {D : DS} (h : DI w g F D) : ∀ q ∈ F, ∃ cur T, w.heap[q]? = some (.cells cur T (0, 0)) ∧ T ≠ 9 ∧ T ≠ 3 := by
  have tab : ∀ {v T L}, TabAt w v T L → ∀ q ∈ L, ∃ cur T, w.heap[q]? = some (.cells cur T (0, 0)) ∧ T ≠ 9 ∧ T ≠ 3 := by
    intro v T L hT q hq
    rcases hT with ⟨_, _, rfl⟩ | ⟨B, bvs, _, _, hI, rfl⟩
    · simp at hq
    · rcases List.mem_cons.1 hq with rfl | hq
      · exact ⟨_, _, hI.row, by decide, by decide⟩
      · obtain ⟨bv, hm, he⟩ := List.mem_filterMap.1 hq
        obtain ⟨i, hi⟩ := List.mem_iff_getElem?.1 hm
        rw [Array.getElem?_toList] at hi
        obtain ⟨hl, _⟩ := Array.getElem?_eq_some_iff.1 hi
        obtain ⟨bv', h1, h2⟩ := hI.each i (by rw [← hI.size]; exact hl)
        rw [hi] at h1; cases h1
        obtain ⟨_, cur, hr⟩ := h2.lt q he
        exact ⟨cur, _, hr, by decide, by decide⟩
  obtain ⟨v1, v2, L1, L2, h1, h2, h3, rfl, h4⟩ := h
  intro q hq
  rcases List.mem_cons.1 hq with rfl | hq
  · exact ⟨_, _, h1, by decide, by decide⟩
  · rcases List.mem_append.1 hq with hq | hq
    · exact tab h2 q hq
    · exact tab h3 q hq
theorem DI.apart {w : World} {g : Nat} {F : List Nat} {D : DS} (h : DI w g F D) {base e size : Nat} {v : Value} {n : Nat} {xs : List Value} (hv : w.ownsRow base e size v n xs) (he : e = 9 ∨ e = 3) : ∀ q, v.ownBlock = some q → q ∉ F := by
  intro q hq hm
  obtain ⟨cur, T, h1, h2, h3⟩ := h.types q hm
  obtain ⟨cur2, h4⟩ := own_type hv hq
  rw [h1] at h4
  injection h4 with h4
  injection h4 with _ h5 _
  subst h5
  rcases he with he | he
  · exact h2 he
  · exact h3 he
theorem own_moved {w w' : World} {g : Nat} {F F' : List Nat} {D : DS} (h : DI w g F D) (hm : Moved w w' F F') {base e size : Nat} {v : Value} {n : Nat} {xs : List Value} (hv : w.ownsRow base e size v n xs) (he : e = 9 ∨ e = 3) : w'.ownsRow base e size v n xs :=
  own_block hv (fun k hk => by
    obtain ⟨cur, hr⟩ := own_type hv hk
    exact hm.rest k (row_lt hr) (h.apart hv he k hk))
theorem own_other {w w' : World} {base base' e e' size size' : Nat} {v v' : Value} {n n' : Nat} {xs xs' : List Value} (hv : w.ownsRow base e size v n xs) (hv' : w.ownsRow base' e' size' v' n' xs') (hne : e ≠ e') (hg : w.grownBy w' v'.ownBlock) : w'.ownsRow base e size v n xs :=
  own_block hv (fun k hk => by
    obtain ⟨cur, hr⟩ := own_type hv hk
    refine hg.block k (row_lt hr) (fun e1 => ?_)
    obtain ⟨cur2, hr2⟩ := own_type hv' e1.symm
    rw [hr] at hr2
    injection hr2 with h4
    injection h4 with _ h5 _
    exact hne h5)
theorem DI.grown {w w' : World} {g : Nat} {F : List Nat} {D : DS} (h : DI w g F D) {base e size : Nat} {v : Value} {n : Nat} {xs : List Value} (hv : w.ownsRow base e size v n xs) (he : e = 9 ∨ e = 3) (hg : w.grownBy w' v.ownBlock) : DI w' g F D :=
  h.keep (fun q hq => hg.block q (h.lt q hq) (fun e1 => h.apart hv he q e1.symm hq))
theorem own_take {w : World} {base e g n cap m : Nat} {xs : List Value} (h : w.ownsRow base e 1 (.slice (some ⟨g, 0, none⟩) n cap) n xs) (hm : m ≤ n) : w.ownsRow base e 1 (.slice (some ⟨g, 0, none⟩) m cap) m (xs.take m) := by
  have hl := h.1
  refine ⟨by rw [List.length_take]; omega, ?_⟩
  rcases h.2 with ⟨e1, _⟩ | ⟨g', cap', cur, hv, hb, hr, q1, q2, q3, q4⟩
  · cases e1
  · injection hv with e1 e2 e3
    injection e1 with e1
    injection e1 with e1 _ _
    subst e1; subst e3
    refine Or.inr ⟨g, cap, cur, rfl, hb, hr, by omega, q2, q3, ?_⟩
    rw [← q4, List.take_take, show min m (n * 1) = m * 1 by omega]
theorem keyB_nodup {D : DS} (h : DInv D) : (keyB D.all).Nodup := by
  have h1 := h.nd
  unfold keyB
  have e : D.all.map (fun e => e.1.data.toList) = (D.all.map (·.1)).map (fun b : ByteArray => b.data.toList) := by rw [List.map_map]; rfl
  rw [e]
  unfold List.Nodup
  rw [List.pairwise_map]
  refine List.Pairwise.imp (fun {a b} hab heq => hab ?_) h1
  exact ByteArray.ext (Array.toList_inj.1 heq)
/-- the keys rise. -/
theorem keysS_rise {D : DS} (h : DInv D) : (keysS D).Pairwise (fun a b => Op.bytesLess a b = true) := by
  have h1 : (keysS D).Pairwise (fun a b : List UInt8 => decide (a ≤ b) = true) := List.pairwise_mergeSort (fun a b c => by simp only [decide_eq_true_eq]; exact List.le_trans) (fun a b => by simp only [Bool.or_eq_true, decide_eq_true_eq]; exact List.le_total a b) _
  have h2 : (keysS D).Nodup := (keysS_perm D).nodup_iff.2 (keyB_nodup h)
  refine (h1.and h2).imp (fun {a b} ⟨hle, hne⟩ => ?_)
  rcases hq : Op.bytesLess a b with _ | _
  · exfalso
    refine hne (bl_tri a b hq ?_)
    rw [bytesLess_eq]
    simp only [decide_eq_true_eq] at hle
    simpa using hle
  · rfl
end Go.Proofs.Ytdemodhjlbkbeaa
namespace Go.Proofs.Ytdemodhjlbkbeaa
open Go.RowKit
set_option linter.unusedVariables false
theorem infoI : (Try.prog.info? 3).map (fun i => (i.zero, i.size, i.bytes)) = some (some (.int .i64 0), 1, 8) := by kernel_rfl
/-- what the law holds: its two rows. -/
structure MapSt (w wr : World) (d : Nat) (F : List Nat) (D : DS) (kl : List Ent) (ck cv : Value) : Prop where
  inv : DInv D
  di : DI wr d F D
  perm : D.all.Perm kl
  fs : ∀ q ∈ F, w.heap.size ≤ q
  ok : wr.ownsRow w.heap.size 9 1 ck kl.length (keyV kl)
  ov : wr.ownsRow w.heap.size 3 1 cv kl.length (rowN kl)
  below : Below w.heap.size w wr
theorem MapSt.on {w wr W : World} {d : Nat} {F : List Nat} {D : DS} {kl : List Ent} {ck cv : Value} (h : MapSt w wr d F D kl ck cv) (hb : Below wr.heap.size wr W) : MapSt w W d F D kl ck cv :=
  ⟨h.inv, h.di.on hb, h.perm, h.fs, own_keep h.ok (fun k _ hk => hb.block k hk), own_keep h.ov (fun k _ hk => hb.block k hk), h.below.trans (hb.mono h.below.size)⟩
theorem MapSt.key {w wr : World} {d : Nat} {F : List Nat} {D : DS} {kl : List Ent} {ck cv : Value} (h : MapSt w wr d F D kl ck cv) (hne : 0 < kl.length) : ∃ K c, ck = .slice (some ⟨K, 0, none⟩) kl.length c ∧ ∀ t (ht : t < kl.length), wr.cell? ⟨K, t, none⟩ = some (.string kl[t].1) := by
  rcases h.ok.2 with ⟨_, e⟩ | ⟨K, c, cur, rfl, _⟩
  · omega
  · refine ⟨K, c, rfl, fun t ht => ?_⟩
    rw [h.ok.cellAt t (by omega)]
    unfold keyV; rw [List.getElem?_map, List.getElem?_eq_getElem ht]; rfl
theorem MapSt.val {w wr : World} {d : Nat} {F : List Nat} {D : DS} {kl : List Ent} {ck cv : Value} (h : MapSt w wr d F D kl ck cv) (hne : 0 < kl.length) : ∃ V c, cv = .slice (some ⟨V, 0, none⟩) kl.length c ∧ ∀ t (ht : t < kl.length), wr.cell? ⟨V, t, none⟩ = some (.int .i64 kl[t].2) := by
  rcases h.ov.2 with ⟨_, e⟩ | ⟨V, c, cur, rfl, _⟩
  · omega
  · refine ⟨V, c, rfl, fun t ht => ?_⟩
    rw [h.ov.cellAt t (by omega)]
    unfold rowN; rw [List.getElem?_map, List.getElem?_eq_getElem ht]; rfl
theorem rowN_app (a b : List Ent) : rowN (a ++ b) = rowN a ++ rowN b := by unfold rowN; rw [List.map_append]
theorem keyV_set (kl : List Ent) (j : Nat) (h : j < kl.length) (k : ByteArray) (n : Int) (hk : kl[j].1 = k) : keyV (kl.set j (k, n)) = keyV kl := by
  unfold keyV
  rw [List.map_set]
  refine List.ext_getElem? (fun t => ?_)
  rw [List.getElem?_set]
  split
  · next e =>
    subst e
    rw [if_pos (by rw [List.length_map]; exact h), List.getElem?_map, List.getElem?_eq_getElem h, ← hk]; rfl
  · rfl
theorem rowN_set (kl : List Ent) (j : Nat) (x : Ent) : rowN (kl.set j x) = (rowN kl).set j (.int .i64 x.2) := by unfold rowN; rw [List.map_set]
theorem keyV_set2 (kl : List Ent) (j : Nat) (x : Ent) : keyV (kl.set j x) = (keyV kl).set j (.string x.1) := by unfold keyV; rw [List.map_set]
theorem keyV_take (kl : List Ent) (m : Nat) : keyV (kl.take m) = (keyV kl).take m := by unfold keyV; rw [List.map_take]
theorem rowN_take (kl : List Ent) (m : Nat) : rowN (kl.take m) = (rowN kl).take m := by unfold rowN; rw [List.map_take]
set_option maxHeartbeats 8000000 in
set_option maxRecDepth 100000 in
theorem Maps_walk (seed : Int) (ad : Option Addr) (g0 off len cap : Nat) (w : World) (hA : len ≠ 0 → ad = some ⟨g0, off, none⟩) (hL : len ≤ 4398046510976) (hO : ∀ i, i < len → ∃ kd k n, OpAt w g0 off i kd k n) :
    Calls Try.prog 4 #[.int .i64 seed, .slice ad len cap] w fun e w' => e = .returned (.bool true) ∧ Below w.heap.size w w' := by
  obtain ⟨i9, hi9, hy0, hy1, hy2⟩ := info_parts info9
  obtain ⟨i3, hi3, hx0, hx1, hx2⟩ := info_parts infoI
  have HNW : Hid _ := New_any seed w
  have HWK : Hid _ := works_any
  have HO : Hid _ := hO
  have HA : Hid _ := hA
  clear hO hA
  go_enter Try.func4, Try.ntmps4
  go_wp2_with fail
  refine (show Calls _ _ _ _ _ from HNW.out).mono ?_
  rintro e w1 ⟨rfl, hd1, hb1⟩
  have HD1 : Hid (DI w1 w.heap.size [w.heap.size] ⟨seed, [], [], 0⟩) := hd1
  have HB1 : Hid (Below w.heap.size w w1) := hb1
  clear hd1 hb1
  go_wp2_with fail
  refine (show Calls _ _ _ _ _ from HWK.out _).mono ?_
  rintro e w2 ⟨rfl, hb2⟩
  have HD2 : Hid (DI w2 w.heap.size [w.heap.size] ⟨seed, [], [], 0⟩) := HD1.out.on hb2
  have HB2 : Hid (Below w.heap.size w w2) := bel_to HB1.out hb2 (Nat.le_refl _)
  clear hb2 HD1 HB1
  obtain ⟨d, hd⟩ : ∃ d, w.heap.size = d := ⟨_, rfl⟩
  have HDD : Hid (w.heap.size = d) := hd
  rw [hd] at HD2
  rw [hd]
  clear hd
  go_wp2
  go_loopw [8, 6, 7] (fun ci ck cv wr => ∃ (i : Nat) (D : DS) (F : List Nat) (kl : List Ent), i ≤ len ∧ ci = .int .i64 (i : Int) ∧ kl.length ≤ i ∧ MapSt w wr d F D kl ck cv) (fun ci _ _ _ => len - (intOf ci).toNat)
  case atStart => exact ⟨0, _, [d], [], Nat.zero_le _, rfl, Nat.le_refl _, ⟨newD_ok seed, HD2.out, List.Perm.refl _, by simp [HDD.out], ⟨rfl, Or.inl ⟨rfl, rfl⟩⟩, ⟨rfl, Or.inl ⟨rfl, rfl⟩⟩, HB2.out⟩⟩
  case round =>
    obtain ⟨i, D, F, kl, hi, rfl, hkl, hst⟩ := hrel
    have HST : Hid (MapSt w wr d F D kl _ _) := hst
    obtain ⟨KP, KC, hkf⟩ := own_form hst.ok
    obtain ⟨VP, VC, hvf⟩ := own_form hst.ov
    subst hkf; subst hvf
    by_cases hlt : i < len
    · have had := HA.out (by omega)
      subst had
      obtain ⟨kd, k, n, hop⟩ := HO.out i hlt
      have hop2 := hop.under hst.below hop.lt
      have e0 := hop2.a
      have e1 := hop2.b
      have e2 := hop2.c
      have hks := hop2.k
      have hz3 : (0 : Int) ≤ (i : Int) := by omega
      have hz4 : (i : Int) < (len : Int) := by omega
      have HX : Hid _ := one_alloc wr (.cells #[.int .i64 kd, .string k, .int .i64 n] 31)
      obtain ⟨W0, hW0⟩ : ∃ W0, W0 = wr.alloc (.cells #[.int .i64 kd, .string k, .int .i64 n] 31) := ⟨_, rfl⟩
      have hbw : Below wr.heap.size wr W0 := by rw [hW0]; exact (Below.refl _ _).alloc (Nat.le_refl _) _
      rw [← hW0] at HX
      have HS0 : Hid (MapSt w W0 d F D kl (.slice KP kl.length KC) (.slice VP kl.length VC)) := hst.on hbw
      have hx0' : W0.cell? ⟨wr.heap.size, 0, none⟩ = some (.int .i64 kd) := by rw [cell_of_row _ _ _ _ _ _ HX.out]; rfl
      have hx1' : W0.cell? ⟨wr.heap.size, 1, none⟩ = some (.string k) := by rw [cell_of_row _ _ _ _ _ _ HX.out]; rfl
      have hx2' : W0.cell? ⟨wr.heap.size, 2, none⟩ = some (.int .i64 n) := by rw [cell_of_row _ _ _ _ _ _ HX.out]; rfl
      obtain ⟨ob, hob⟩ : ∃ ob, wr.heap.size = ob := ⟨_, rfl⟩
      rw [hob] at hx0' hx1' hx2'
      have HOF : Hid (ob ∉ F) := fun hx => by have := hst.di.lt ob hx; omega
      have HKO : Hid (∀ q, (Value.slice KP kl.length KC).ownBlock = some q → q ≠ ob) := fun q hq => by have := (World.ownsRow.lt hst.ok q hq).2; omega
      have HVO : Hid (∀ q, (Value.slice VP kl.length VC).ownBlock = some q → q ≠ ob) := fun q hq => by have := (World.ownsRow.lt hst.ov q hq).2; omega
      clear hop hop2 hst HST hbw HX
      go_upto_region 10 with fail
      rw [← hW0]
      clear hW0 e0 e1 e2
      clear hob
      go_wp2
      go_loopw [10, 11] (fun ca ck W => Below W0.heap.size W0 W ∧ ∃ (t : Nat) (a : Int), t ≤ kl.length ∧ ck = .int .i64 (t : Int) ∧ ca = .int .i64 a ∧ AtIs kl k t a) (fun _ ck _ => kl.length - (intOf ck).toNat)
      case atStart => exact ⟨Below.refl _ _, 0, -1, Nat.zero_le _, rfl, rfl, Or.inl ⟨rfl, fun t _ h => by omega⟩⟩
      case round =>
        obtain ⟨hbW, t, a, ht, rfl, rfl, hat⟩ := hrel
        have HBW : Hid (Below W0.heap.size W0 wr) := hbW
        have HSW : Hid (MapSt w wr d F D kl (.slice KP kl.length KC) (.slice VP kl.length VC)) := HS0.out.on hbW
        have HAT : Hid (AtIs kl k t a) := hat
        have y0 := cell_on hx0' hbW
        have y1 := cell_on hx1' hbW
        have y2 := cell_on hx2' hbW
        clear hbW hat
        by_cases htl : t < kl.length
        · obtain ⟨K, kc, hck, hcells⟩ := HSW.out.key (by omega)
          injection hck with hk1 hk2 hk3
          subst hk1; subst hk3
          have hct := hcells t htl
          have hz5 : (0 : Int) ≤ (t : Int) := by omega
          have hz6 : (t : Int) < (kl.length : Int) := by omega
          have htw : IntKind.i64.wrap ((t : Int) + 1) = (t : Int) + 1 := by rw [IntKind.wrap_i64] <;> omega
          clear hcells hk2
          by_cases heq : kl[t].1 = k
          · have hsame : (kl[t].1.toList == k.toList) = true := by rw [heq]; simp
            have HA2 : Hid (AtIs kl k (t + 1) (t : Int)) := Or.inr ⟨t, htl, by omega, rfl, heq⟩
            clear heq
            generalize kl[t].1 = X at *
            go_wp2_with fail
            go_quiet (fail)
            have HB2 : Hid (Below W0.heap.size W0 (wr.drewN nq)) := below_dn HBW.out nq
            go_wp2
            go_roundw
            case rel => exact ⟨HB2.out, t + 1, (t : Int), htl, by simp, rfl, HA2.out⟩
            case measure => simp [intOf]; omega
          · have hother : (kl[t].1.toList == k.toList) = false := str_other (fun e => heq (ByteArray.ext (Array.toList_inj.1 e)))
            have HA2 : Hid (AtIs kl k (t + 1) a) := by
              rcases HAT.out with ⟨e, h⟩ | ⟨j, hj, h1, h2, h3⟩
              · refine Or.inl ⟨e, fun t' ht' h' => ?_⟩
                rcases Nat.lt_or_ge t' t with h4 | h4
                · exact h t' ht' h4
                · have : t' = t := by omega
                  subst this; exact heq
              · exact Or.inr ⟨j, hj, by omega, h2, h3⟩
            clear heq
            generalize kl[t].1 = X at *
            go_wp2_with fail
            go_quiet (fail)
            have HB2 : Hid (Below W0.heap.size W0 (wr.drewN nq)) := below_dn HBW.out nq
            go_wp2
            go_roundw
            case rel => exact ⟨HB2.out, t + 1, a, htl, by simp, rfl, HA2.out⟩
            case measure => simp [intOf]; omega
        · have hte : t = kl.length := by omega
          subst hte
          have hhas : (stepD D).has k = true ↔ k ∈ kl.map (·.1) := by
            obtain ⟨q1, q2, q3⟩ := stepD_ok HSW.out.inv
            rw [all_keys q1]
            exact ((q2.trans HSW.out.perm).map _).mem_iff
          have hcnt : cnt D.T1 + cnt D.T2 = kl.length := by rw [← DS.all_len]; exact HSW.out.perm.length_eq
          have HHS : Hid _ := hhas
          clear hhas
          have HSE : Hid _ := Set_any d F D HSW.out.inv k (by omega) n (by omega) wr HSW.out.di
          have HSK : Hid _ := setD_ok HSW.out.inv k (by omega) n (by omega)
          have HDE : Hid _ := Delete_any d F D HSW.out.inv k (by omega) (by omega) wr HSW.out.di
          have HDK : Hid _ := deleteD_ok HSW.out.inv k
          have hiw : IntKind.i64.wrap ((i : Int) + 1) = (i : Int) + 1 := by rw [IntKind.wrap_i64] <;> omega
          by_cases hk0 : kd = 0
          · subst hk0
            clear HDE HDK
            rcases HAT.out with ⟨rfl, hno⟩ | ⟨j, hjl, _, rfl, hjk⟩
            · have hnot : k ∉ kl.map (·.1) := AtIs.none HAT.out
              have hf : (stepD D).has k = false := by
                rcases hq : (stepD D).has k with _ | _
                · rfl
                · exact absurd (HHS.out.1 hq) hnot
              rw [hf] at HSE HSK
              clear hno
              go_wp2_with fail
              refine (show Calls _ _ _ _ _ from HSE.out).mono ?_
              rintro e w3 ⟨rfl, F3, hd3, hm3⟩
              have hobl := lt_of_cell y1
              have z1 := (World.cell?_of_block (a := ⟨ob, 1, none⟩) (hm3.rest ob hobl HOF.out)).trans y1
              have z2 := (World.cell?_of_block (a := ⟨ob, 2, none⟩) (hm3.rest ob hobl HOF.out)).trans y2
              have HD3 : Hid (DI w3 d F3 (setD D k n)) := hd3
              have HK3 : Hid (w3.ownsRow w.heap.size 9 1 (.slice KP kl.length KC) kl.length (keyV kl)) := own_moved HSW.out.di hm3 HSW.out.ok (Or.inl rfl)
              have HV3 : Hid (w3.ownsRow w.heap.size 3 1 (.slice VP kl.length VC) kl.length (rowN kl)) := own_moved HSW.out.di hm3 HSW.out.ov (Or.inr rfl)
              have HF3 : Hid (∀ q ∈ F3, w.heap.size ≤ q) := hm3.ge HSW.out.fs HSW.out.below.size
              have HB3 : Hid (Below w.heap.size w w3) := HSW.out.below.trans (hm3.below HSW.out.fs HSW.out.below.size)
              have HIN3 : Hid _ := HSK.out.inv
              have HPE3 : Hid ((setD D k n).all.Perm (kl ++ [(k, n)])) := ((HSK.out.fresh rfl).2.trans (List.Perm.cons _ HSW.out.perm)).trans (List.perm_append_singleton _ _).symm
              have hobl3 := lt_of_cell z1
              clear hd3 hm3 y0 y1 y2 hobl hnot hf
              generalize setD D k n = S at *
              go_upto_region 21 with fail
              have HS4 : Hid (w.heap.size ≤ (w3.alloc (.cells #[.string k] 9)).heap.size) := Nat.le_trans HB3.out.size (by simp)
              have HC4 : Hid ((w3.alloc (.cells #[.string k] 9)).cell? ⟨w3.heap.size, 0, none⟩ = some (.string k)) := (row1 (one_alloc w3 _)).1
              have hba : Below w3.heap.size w3 (w3.alloc (.cells #[.string k] 9)) := (Below.refl _ _).alloc (Nat.le_refl _) _
              have HKA : Hid ((w3.alloc (.cells #[.string k] 9)).ownsRow w.heap.size 9 1 (.slice KP kl.length KC) kl.length (keyV kl)) := own_keep HK3.out (fun q _ hq => hba.block q hq)
              have HVA : Hid ((w3.alloc (.cells #[.string k] 9)).ownsRow w.heap.size 3 1 (.slice VP kl.length VC) kl.length (rowN kl)) := own_keep HV3.out (fun q _ hq => hba.block q hq)
              have HDA : Hid (DI (w3.alloc (.cells #[.string k] 9)) d F3 S) := HD3.out.on hba
              have HBA : Hid (Below w.heap.size w (w3.alloc (.cells #[.string k] 9))) := HB3.out.trans (hba.mono HB3.out.size)
              have HZ2 : Hid ((w3.alloc (.cells #[.string k] 9)).cell? ⟨ob, 2, none⟩ = some (.int .i64 n)) := cell_on z2 hba
              clear hba
              go_wp2_with (at_builtin; go_must (refine wpList_append_own_at _ rfl _ _ 28 rfl w.heap.size 9 i9 (.string ⟨#[]⟩) 1 16 Try.underlying28 hi9 hy0 hy1 hy2 rfl (by decide) _ _ _ rfl HKA.out ⟨w3.heap.size, 0, none⟩ 1 1 [.string k] rfl rfl ?t0 ?t1 ?t2 ?t3 HS4.out ?_))
              case t0 =>
                intro q u hq
                match q, hq with
                | 0, hq => simp at hq; subst hq; exact HC4.out
              case t1 => intro u hu; simp at hu; subst hu; rfl
              case t2 => unfold maxLen; omega
              case t3 => omega
              intro v4 w4 hown4 hgr4 _ hob4
              have HV4 : Hid (w4.ownsRow w.heap.size 3 1 (.slice VP kl.length VC) kl.length (rowN kl)) := own_other HVA.out HKA.out (by decide) hgr4
              have HD4 : Hid (DI w4 d F3 S) := HDA.out.grown HKA.out (Or.inl rfl) hgr4
              have HB4 : Hid (Below w.heap.size w w4) := HBA.out.grown hgr4 HS4.out (fun q hq => (World.ownsRow.lt HKA.out q hq).1)
              have u2 : w4.cell? ⟨ob, 2, none⟩ = some (.int .i64 n) := (World.cell?_of_block (a := ⟨ob, 2, none⟩) (hgr4.block ob (by simp; omega) (fun e => HKO.out ob e.symm rfl))).trans HZ2.out
              have hobl4 := lt_of_cell u2
              have HK4 : Hid (w4.ownsRow w.heap.size 9 1 v4 (kl ++ [(k, n)]).length (keyV (kl ++ [(k, n)]))) := by
                show World.ownsRow _ _ _ _ _ _ _
                rw [keyV_app, List.length_append]; exact hown4
              clear hown4 hgr4 hob4 z1 z2
              go_upto_region 22 with fail
              have HS5 : Hid (w.heap.size ≤ (w4.alloc (.cells #[.int .i64 n] 3)).heap.size) := Nat.le_trans HB4.out.size (by simp)
              have HC5 : Hid ((w4.alloc (.cells #[.int .i64 n] 3)).cell? ⟨w4.heap.size, 0, none⟩ = some (.int .i64 n)) := (row1 (one_alloc w4 _)).1
              have hba : Below w4.heap.size w4 (w4.alloc (.cells #[.int .i64 n] 3)) := (Below.refl _ _).alloc (Nat.le_refl _) _
              have HKB : Hid ((w4.alloc (.cells #[.int .i64 n] 3)).ownsRow w.heap.size 9 1 v4 (kl ++ [(k, n)]).length (keyV (kl ++ [(k, n)]))) := own_keep HK4.out (fun q _ hq => hba.block q hq)
              have HVB : Hid ((w4.alloc (.cells #[.int .i64 n] 3)).ownsRow w.heap.size 3 1 (.slice VP kl.length VC) kl.length (rowN kl)) := own_keep HV4.out (fun q _ hq => hba.block q hq)
              have HDB : Hid (DI (w4.alloc (.cells #[.int .i64 n] 3)) d F3 S) := HD4.out.on hba
              have HBB : Hid (Below w.heap.size w (w4.alloc (.cells #[.int .i64 n] 3))) := HB4.out.trans (hba.mono HB4.out.size)
              clear hba
              go_wp2_with (at_builtin; go_must (refine wpList_append_own_at _ rfl _ _ 29 rfl w.heap.size 3 i3 (.int .i64 0) 1 8 Try.underlying29 hi3 hx0 hx1 hx2 rfl (by decide) _ _ _ rfl HVB.out ⟨w4.heap.size, 0, none⟩ 1 1 [.int .i64 n] rfl rfl ?s0 ?s1 ?s2 ?s3 HS5.out ?_))
              case s1 => rfl
              case s2 => unfold maxLen; omega
              case s3 => omega
              intro v5 w5 hown5 hgr5 _ hob5
              have HMS : Hid (MapSt w w5 d F3 S (kl ++ [(k, n)]) v4 v5) := by
                refine ⟨HIN3.out, HDB.out.grown HVB.out (Or.inr rfl) hgr5, HPE3.out, HF3.out, own_other HKB.out HVB.out (by decide) hgr5, ?_, HBB.out.grown hgr5 HS5.out (fun q hq => (World.ownsRow.lt HVB.out q hq).1)⟩
                rw [rowN_app, List.length_append]; exact hown5
              clear hown5 hgr5 hob5 u2
              go_wp2
              go_roundw
              case rel => exact ⟨i + 1, S, F3, kl ++ [(k, n)], hlt, by simp, by simp; omega, HMS.out⟩
              case measure => simp [intOf]; omega
            · have hin : k ∈ kl.map (·.1) := List.mem_map.2 ⟨kl[j], List.getElem_mem hjl, hjk⟩
              have hf : (stepD D).has k = true := HHS.out.2 hin
              rw [hf] at HSE HSK
              have HJK : Hid (kl[j].1 = k) := hjk
              have hjn : ¬ ((j : Int) < 0) := by omega
              clear hin hf hjk
              go_wp2_with fail
              refine (show Calls _ _ _ _ _ from HSE.out).mono ?_
              rintro e w3 ⟨rfl, F3, hd3, hm3⟩
              have hobl := lt_of_cell y1
              have z2 := (World.cell?_of_block (a := ⟨ob, 2, none⟩) (hm3.rest ob hobl HOF.out)).trans y2
              have HD3 : Hid (DI w3 d F3 (setD D k n)) := hd3
              have HK3 : Hid (w3.ownsRow w.heap.size 9 1 (.slice KP kl.length KC) kl.length (keyV kl)) := own_moved HSW.out.di hm3 HSW.out.ok (Or.inl rfl)
              have HV3 : Hid (w3.ownsRow w.heap.size 3 1 (.slice VP kl.length VC) kl.length (rowN kl)) := own_moved HSW.out.di hm3 HSW.out.ov (Or.inr rfl)
              have HF3 : Hid (∀ q ∈ F3, w.heap.size ≤ q) := hm3.ge HSW.out.fs HSW.out.below.size
              have HB3 : Hid (Below w.heap.size w w3) := HSW.out.below.trans (hm3.below HSW.out.fs HSW.out.below.size)
              have HPE3 : Hid ((setD D k n).all.Perm (kl.set j (k, n))) := by
                obtain ⟨v0, R, r1, r2⟩ := HSK.out.old rfl
                exact r2.trans ((List.Perm.cons _ (rest_perm HSW.out.inv HSW.out.perm r1 hjl HJK.out)).trans (set_at kl j hjl (k, n)).symm)
              have HIN3 : Hid _ := HSK.out.inv
              clear hd3 hm3 y0 y1 y2 hobl
              generalize setD D k n = S at *
              obtain ⟨V, vc, hcv, hvcells⟩ := HSW.out.val (by omega)
              injection hcv with hk1 hk2 hk3
              subst hk1; subst hk3
              have hvj : w3.cell? ⟨V, j, none⟩ = some (.int .i64 kl[j].2) := by
                rw [HV3.out.cellAt j (by omega)]
                unfold rowN; rw [List.getElem?_map, List.getElem?_eq_getElem hjl]; rfl
              have hvf : w3.frozen? ⟨V, j, none⟩ = false := HV3.out.frozenAt j
              have hz7 : (0 : Int) ≤ (j : Int) := by omega
              have hz8 : (j : Int) < (kl.length : Int) := by omega
              have HMS : Hid (MapSt w (w3.setCell ⟨V, j, none⟩ (.int .i64 n)) d F3 S (kl.set j (k, n)) (.slice KP kl.length KC) (.slice (some ⟨V, 0, none⟩) kl.length VC)) := by
                obtain ⟨s1, s2⟩ := HV3.out.stored j (.int .i64 n)
                refine ⟨HIN3.out, HD3.out.grown HV3.out (Or.inr rfl) s2, HPE3.out, HF3.out, ?_, ?_, HB3.out.grown s2 HB3.out.size (fun q hq => (World.ownsRow.lt HV3.out q hq).1)⟩
                · rw [keyV_set kl j hjl k n HJK.out, List.length_set]
                  exact own_other HK3.out HV3.out (by decide) s2
                · rw [rowN_set, List.length_set]; exact s1
              clear hvcells hk2
              generalize kl[j].2 = X at *
              go_wp2
              go_roundw
              case rel => exact ⟨i + 1, S, F3, kl.set j (k, n), hlt, by simp, by simp; omega, by simpa using HMS.out⟩
              case measure => simp [intOf]; omega
          · have hk0' : (kd == 0) = false := by simpa using hk0
            by_cases hk1 : kd = 1
            · subst hk1
              clear HSE HSK
              rcases HAT.out with ⟨rfl, hno⟩ | ⟨j, hjl, _, rfl, hjk⟩
              · have hnot : k ∉ kl.map (·.1) := AtIs.none HAT.out
                have hf : (stepD D).has k = false := by
                  rcases hq : (stepD D).has k with _ | _
                  · rfl
                  · exact absurd (HHS.out.1 hq) hnot
                rw [hf] at HDE HDK
                clear hno hnot hf
                go_wp2_with fail
                refine (show Calls _ _ _ _ _ from HDE.out).mono ?_
                rintro e w3 ⟨rfl, F3, hd3, hm3⟩
                have HMS : Hid (MapSt w w3 d F3 (deleteD D k) kl (.slice KP kl.length KC) (.slice VP kl.length VC)) :=
                  ⟨HDK.out.inv, hd3, (HDK.out.miss rfl).2.trans HSW.out.perm, hm3.ge HSW.out.fs HSW.out.below.size, own_moved HSW.out.di hm3 HSW.out.ok (Or.inl rfl), own_moved HSW.out.di hm3 HSW.out.ov (Or.inr rfl), HSW.out.below.trans (hm3.below HSW.out.fs HSW.out.below.size)⟩
                clear hd3 hm3 y0 y1 y2
                go_wp2
                go_roundw
                case rel => exact ⟨i + 1, _, F3, kl, hlt, by simp, by omega, HMS.out⟩
                case measure => simp [intOf]; omega
              · have hin : k ∈ kl.map (·.1) := List.mem_map.2 ⟨kl[j], List.getElem_mem hjl, hjk⟩
                have hf : (stepD D).has k = true := HHS.out.2 hin
                rw [hf] at HDE HDK
                have HJK : Hid (kl[j].1 = k) := hjk
                have hjn : (0 : Int) ≤ (j : Int) := by omega
                clear hin hf hjk
                go_wp2_with fail
                refine (show Calls _ _ _ _ _ from HDE.out).mono ?_
                rintro e w3 ⟨rfl, F3, hd3, hm3⟩
                have HD3 : Hid (DI w3 d F3 (deleteD D k)) := hd3
                have HK3 : Hid (w3.ownsRow w.heap.size 9 1 (.slice KP kl.length KC) kl.length (keyV kl)) := own_moved HSW.out.di hm3 HSW.out.ok (Or.inl rfl)
                have HV3 : Hid (w3.ownsRow w.heap.size 3 1 (.slice VP kl.length VC) kl.length (rowN kl)) := own_moved HSW.out.di hm3 HSW.out.ov (Or.inr rfl)
                have HF3 : Hid (∀ q ∈ F3, w.heap.size ≤ q) := hm3.ge HSW.out.fs HSW.out.below.size
                have HB3 : Hid (Below w.heap.size w w3) := HSW.out.below.trans (hm3.below HSW.out.fs HSW.out.below.size)
                have HPE3 : Hid ((deleteD D k).all.Perm ((kl.set j (kl[kl.length - 1]'(by omega))).take (kl.length - 1))) := by
                  obtain ⟨v0, r1⟩ := HDK.out.hit rfl
                  exact (rest_perm HSW.out.inv HSW.out.perm r1 hjl HJK.out).trans (swap_at kl j hjl).symm
                have HIN3 : Hid _ := HDK.out.inv
                clear hd3 hm3 y0 y1 y2
                generalize deleteD D k = S at *
                obtain ⟨K, kc, hck, _⟩ := HSW.out.key (by omega)
                injection hck with hk1 hk2 hk3
                subst hk1; subst hk3
                obtain ⟨V, vc, hcv, _⟩ := HSW.out.val (by omega)
                injection hcv with hk4 hk5 hk6
                subst hk4; subst hk6
                obtain ⟨m, hm⟩ : ∃ m, kl.length - 1 = m := ⟨_, rfl⟩
                have hml : m < kl.length := by omega
                have hKC : kl.length ≤ KC := by
                  rcases HK3.out.2 with ⟨e, _⟩ | ⟨_, _, _, e, _, _, q, _⟩
                  · cases e
                  · injection e with _ _ e3; subst e3; exact q
                have hVC : kl.length ≤ VC := by
                  rcases HV3.out.2 with ⟨e, _⟩ | ⟨_, _, _, e, _, _, q, _⟩
                  · cases e
                  · injection e with _ _ e3; subst e3; exact q
                have hkm : w3.cell? ⟨K, m, none⟩ = some (.string kl[m].1) := by
                  rw [HK3.out.cellAt m (by omega)]
                  unfold keyV; rw [List.getElem?_map, List.getElem?_eq_getElem hml]; rfl
                have hkj : w3.cell? ⟨K, j, none⟩ = some (.string kl[j].1) := by
                  rw [HK3.out.cellAt j (by omega)]
                  unfold keyV; rw [List.getElem?_map, List.getElem?_eq_getElem hjl]; rfl
                have hkf : ∀ q, w3.frozen? ⟨K, q, none⟩ = false := fun q => HK3.out.frozenAt q
                obtain ⟨s1, s2⟩ := HK3.out.stored j (.string kl[m].1)
                obtain ⟨W4, hW4⟩ : ∃ W4, W4 = w3.setCell ⟨K, j, none⟩ (.string kl[m].1) := ⟨_, rfl⟩
                rw [← hW4] at s1 s2
                have HK4 : Hid (W4.ownsRow w.heap.size 9 1 (.slice (some ⟨K, 0, none⟩) kl.length KC) kl.length ((keyV kl).set j (.string kl[m].1))) := s1
                have HV4 : Hid (W4.ownsRow w.heap.size 3 1 (.slice (some ⟨V, 0, none⟩) kl.length VC) kl.length (rowN kl)) := own_other HV3.out HK3.out (by decide) s2
                have HD4 : Hid (DI W4 d F3 S) := HD3.out.grown HK3.out (Or.inl rfl) s2
                have HB4 : Hid (Below w.heap.size w W4) := HB3.out.grown s2 HB3.out.size (fun q hq => (World.ownsRow.lt HK3.out q hq).1)
                have hz7 : (0 : Int) ≤ (m : Int) := by omega
                have hz8 : (m : Int) < (kl.length : Int) := by omega
                have hz9 : (j : Int) < (kl.length : Int) := by omega
                have hmw : IntKind.i64.wrap ((kl.length : Int) - 1) = (m : Int) := by rw [IntKind.wrap_i64] <;> omega
                have hmw2 : (kl.length : Int) - 1 = (m : Int) := by omega
                have HPE4 : Hid (S.all.Perm ((kl.set j kl[m]).take m)) := by
                  have q := HPE3.out
                  simp only [hm] at q
                  exact q
                clear hm s1 s2 hk2 hk5 HPE3
                have HKX : Hid ((keyV kl).set j (.string kl[m].1) = keyV (kl.set j kl[m])) := (keyV_set2 kl j kl[m]).symm
                have HVX : Hid ((rowN kl).set j (.int .i64 kl[m].2) = rowN (kl.set j kl[m])) := (rowN_set kl j kl[m]).symm
                have hvm : W4.cell? ⟨V, m, none⟩ = some (.int .i64 kl[m].2) := by
                  rw [HV4.out.cellAt m (by omega)]
                  unfold rowN; rw [List.getElem?_map, List.getElem?_eq_getElem hml]; rfl
                have hvj : W4.cell? ⟨V, j, none⟩ = some (.int .i64 kl[j].2) := by
                  rw [HV4.out.cellAt j (by omega)]
                  unfold rowN; rw [List.getElem?_map, List.getElem?_eq_getElem hjl]; rfl
                have hvf : ∀ q, W4.frozen? ⟨V, q, none⟩ = false := fun q => HV4.out.frozenAt q
                obtain ⟨s1, s2⟩ := HV4.out.stored j (.int .i64 kl[m].2)
                obtain ⟨W5, hW5⟩ : ∃ W5, W5 = W4.setCell ⟨V, j, none⟩ (.int .i64 kl[m].2) := ⟨_, rfl⟩
                rw [← hW5] at s1 s2
                have HMS : Hid (MapSt w W5 d F3 S ((kl.set j kl[m]).take m) (.slice (some ⟨K, 0, none⟩) m KC) (.slice (some ⟨V, 0, none⟩) m VC)) := by
                  have q1 := own_other HK4.out HV4.out (by decide) s2
                  have hlen : ((kl.set j kl[m]).take m).length = m := by rw [List.length_take, List.length_set]; omega
                  refine ⟨HIN3.out, HD4.out.grown HV4.out (Or.inr rfl) s2, HPE4.out, HF3.out, ?_, ?_, HB4.out.grown s2 HB4.out.size (fun q hq => (World.ownsRow.lt HV4.out q hq).1)⟩
                  · rw [hlen, keyV_take, ← HKX.out]; exact own_take q1 (by omega)
                  · rw [hlen, rowN_take, ← HVX.out]; exact own_take s1 (by omega)
                have HLN : Hid (((kl.set j kl[m]).take m).length = m) := by show _ = _; rw [List.length_take, List.length_set]; omega
                clear s1 s2 HKX HVX HPE4
                generalize (kl.set j kl[m]).take m = KL at *
                generalize kl[m].1 = XS at *
                generalize kl[m].2 = XN at *
                generalize kl[j].1 = YS at *
                generalize kl[j].2 = YN at *
                go_upto_region 30 with fail
                rw [← hW4]
                clear hW4 hkm hkj hkf
                go_upto_region 31 with fail
                rw [← hW5]
                clear hW5 hvm hvj hvf
                have hmk : (m : Int) ≤ (KC : Int) := by omega
                have hmv : (m : Int) ≤ (VC : Int) := by omega
                go_wp2
                go_roundw
                case rel => exact ⟨i + 1, S, F3, KL, hlt, by simp, by rw [HLN.out]; omega, HMS.out⟩
                case measure => simp [intOf]; omega
            · have hk1' : (kd == 1) = false := by simpa using hk1
              clear HSE HSK HDE HDK
              go_wp2
              go_roundw
              case rel => exact ⟨i + 1, D, F, kl, hlt, by simp, by omega, HSW.out⟩
              case measure => simp [intOf]; omega
    · have hie : i = len := by omega
      subst hie
      have hcnt : cnt D.T1 + cnt D.T2 = kl.length := by rw [← DS.all_len]; exact hst.perm.length_eq
      have HKY : Hid _ := Keys_any d F D hst.inv (by omega) wr hst.di
      have HCN : Hid _ := hcnt
      clear hcnt hst
      go_wp2_with fail
      refine (show Calls _ _ _ _ _ from HKY.out).mono ?_
      rintro e w5 ⟨kv, rfl, hkn, hko, hb5⟩
      have HS5 : Hid (MapSt w w5 d F D kl (.slice KP kl.length KC) (.slice VP kl.length VC)) := HST.out.on hb5
      have HLN : Hid _ := Len_all d F D (by have := HCN.out; omega) w5 HS5.out.di
      rw [HCN.out] at HLN
      have HSR : Hid (StrRow w5 kv ((keysS D).map strB)) := StrRow.of_own hko rfl
      have hkl2 : (keysS D).length = kl.length := by rw [keysS_len]; exact HCN.out
      obtain ⟨kad, kcp, rfl, hkc⟩ := HSR.out
      rw [List.length_map, hkl2]
      have HKC : Hid (∀ t (ht : t < kl.length), ∃ g o, kad = some ⟨g, o, none⟩ ∧ ∃ h' : t < (keysS D).length, w5.cell? ⟨g, o + t, none⟩ = some (.string (strB (keysS D)[t]))) := fun t ht => by
        have h' : t < (keysS D).length := by omega
        obtain ⟨g, o, e1, e2⟩ := hkc (fun e => by have := congrArg List.length e; simp at this; rw [this] at h'; simp at h')
        refine ⟨g, o, e1, h', ?_⟩
        have := e2 t (by simpa using h')
        rw [List.getElem_map] at this; exact this
      have HRS : Hid (∀ t (ht : t + 1 < (keysS D).length), Op.bytesLess (keysS D)[t] (keysS D)[t + 1] = true) := by
        show ∀ t (ht : t + 1 < (keysS D).length), _
        intro t ht
        exact List.pairwise_iff_getElem.1 (keysS_rise HS5.out.inv) t (t + 1) (by omega) ht (by omega)
      clear hkn hko hb5 hkc HSR
      go_wp2_with fail
      refine (show Calls _ _ _ _ _ from HLN.out).mono ?_
      rintro e w6 ⟨rfl, kq, hkq⟩
      have hb6 : Below w5.heap.size w5 w6 := by rw [hkq]; exact below_dn (Below.refl _ _) kq
      have HB6 : Hid (Below w5.heap.size w5 w6) := hb6
      clear hb6 hkq
      go_wp2
      go_loopw [14] (fun ci wr => Below w5.heap.size w5 wr ∧ ∃ t : Nat, t ≤ kl.length ∧ ci = .int .i64 (t : Int)) (fun ci _ => kl.length - (intOf ci).toNat)
      case atStart => exact ⟨HB6.out, 0, Nat.zero_le _, rfl⟩
      case round =>
        obtain ⟨hbt, t, ht, rfl⟩ := hrel
        have HBT : Hid (Below w5.heap.size w5 wr) := hbt
        by_cases htl : t < kl.length
        · obtain ⟨gk, ok, rfl, hkt, hct⟩ := HKC.out t htl
          have c1 := cell_on hct hbt
          have hz3 : (0 : Int) ≤ (t : Int) := by omega
          have hz4 : (t : Int) < (kl.length : Int) := by omega
          have htw : IntKind.i64.wrap ((t : Int) + 1) = (t : Int) + 1 := by rw [IntKind.wrap_i64] <;> omega
          rcases Nat.eq_zero_or_pos t with h0 | h0
          · subst h0
            clear hct hbt c1
            go_wp2_with fail
            go_quiet (fail)
            have HB2 : Hid (Below w5.heap.size w5 (wr.drewN nq)) := below_dn HBT.out nq
            go_wp2
            go_roundw
            case rel => exact ⟨HB2.out, 1, htl, rfl⟩
            case measure => simp [intOf]; omega
          · obtain ⟨s, rfl⟩ : ∃ s, t = s + 1 := ⟨t - 1, by omega⟩
            obtain ⟨gk2, ok2, he2, hks2, hcs⟩ := HKC.out s (by omega)
            injection he2 with he2
            injection he2 with e1 e2 _
            subst e1; subst e2
            have c0 := cell_on hcs hbt
            have hbl : Op.bytesLess (strB (keysS D)[s]).toList (strB (keysS D)[s + 1]).toList = true := by
              rw [ByteArray.toList_eq, ByteArray.toList_eq, strB_list, strB_list]
              exact HRS.out s hkt
            have hsw : IntKind.i64.wrap (((s + 1 : Nat) : Int) - 1) = (s : Int) := by rw [IntKind.wrap_i64] <;> omega
            have hs0 : (0 : Int) < ((s + 1 : Nat) : Int) := by omega
            have hz5 : (0 : Int) ≤ (s : Int) := by omega
            have hz6 : (s : Int) < (kl.length : Int) := by omega
            have hzs : s < kl.length := by omega
            generalize strB (keysS D)[s] = X at *
            generalize strB (keysS D)[s + 1] = Y at *
            obtain ⟨t1, ht1⟩ : ∃ t1, s + 1 = t1 := ⟨_, rfl⟩
            rw [ht1] at htl hct c1 hz3 hz4 htw hkt hsw hs0 h0 ht ⊢
            have hg1 : decide ((0 : Int) < (t1 : Int)) = true := by simpa using hs0
            have hg2 : decide (0 < t1) = true := by simpa using h0
            have hs2 : (t1 : Int) - 1 = (s : Int) := by omega
            have HT1 : Hid _ := ht1
            clear ht1
            clear hct hcs hbt hkt
            go_wp2_with fail
            go_quiet (fail)
            have HB2 : Hid (Below w5.heap.size w5 (wr.drewN nq)) := below_dn HBT.out nq
            go_wp2
            go_roundw
            case rel => exact ⟨HB2.out, t1 + 1, htl, by simp⟩
            case measure => simp [intOf]; omega
        · clear hbt
          go_wp2
          go_loopw [15] (fun ci W => Below w5.heap.size w5 W ∧ ∃ t : Nat, t ≤ kl.length ∧ ci = .int .i64 (t : Int)) (fun ci _ => kl.length - (intOf ci).toNat)
          case atStart => exact ⟨HBT.out, 0, Nat.zero_le _, rfl⟩
          case round =>
            obtain ⟨hbu, u, hu, rfl⟩ := hrel
            have HSU : Hid (MapSt w wr d F D kl (.slice KP kl.length KC) (.slice VP kl.length VC)) := HS5.out.on hbu
            have HBU : Hid (Below w5.heap.size w5 wr) := hbu
            clear hbu
            by_cases hul : u < kl.length
            · obtain ⟨K, kc, hck, hkcells⟩ := HSU.out.key (by omega)
              injection hck with hk1 hk2 hk3
              subst hk1; subst hk3
              obtain ⟨V, vc, hcv, _⟩ := HSU.out.val (by omega)
              injection hcv with hk4 hk5 hk6
              subst hk4; subst hk6
              have c1 := hkcells u hul
              have hmem : (kl[u].1, kl[u].2) ∈ kl := List.getElem_mem hul
              have hmD : (kl[u].1, kl[u].2) ∈ D.all := HSU.out.perm.mem_iff.2 hmem
              have HGE : Hid _ := Get_yes d F D HSU.out.inv kl[u].1 (HSU.out.inv.keys _ hmD) (by have := HCN.out; omega) ((all_keys HSU.out.inv _).2 (List.mem_map.2 ⟨_, hmD, rfl⟩)) wr HSU.out.di
              have HON : Hid (∀ v, (kl[u].1, v) ∈ D.all → v = kl[u].2) := fun v hv => one_val HSU.out.inv.nd hv hmD
              have HVC : Hid (∀ W, Below wr.heap.size wr W → W.cell? ⟨V, u, none⟩ = some (.int .i64 kl[u].2)) := fun W hW => by
                obtain ⟨V', vc', e, hc⟩ := (HSU.out.on hW).val (by omega)
                injection e with e1 _ _
                injection e1 with e1
                injection e1 with e1 _ _
                subst e1; exact hc u hul
              have hz3 : (0 : Int) ≤ (u : Int) := by omega
              have hz4 : (u : Int) < (kl.length : Int) := by omega
              have huw : IntKind.i64.wrap ((u : Int) + 1) = (u : Int) + 1 := by rw [IntKind.wrap_i64] <;> omega
              clear hkcells hk2 hk5 hmem hmD
              generalize kl[u].1 = X at *
              generalize kl[u].2 = Y at *
              go_wp2_with fail
              refine (show Calls _ _ _ _ _ from HGE.out).mono ?_
              rintro e w7 ⟨⟨v, rfl, hv⟩, hb7⟩
              have hvY := HON.out v hv
              subst hvY
              have c2 := HVC.out w7 hb7
              have HB7 : Hid (Below w5.heap.size w5 w7) := HBU.out.trans (hb7.mono HBU.out.size)
              clear hv hb7 c1
              go_wp2
              go_roundw
              case rel => exact ⟨HB7.out, u + 1, hul, by simp⟩
              case measure => simp [intOf]; omega
            · go_wp2
              go_returns
              exact ⟨rfl, HSU.out.below⟩
end Go.Proofs.Ytdemodhjlbkbeaa
namespace Go.Proofs.Ytdemodhjlbkbeaa.dictMaps
open Go.ChangeShapes Go.WideShapes Go.ChangeAt Go.RowKit Go.Deep
set_option linter.unusedVariables false
theorem own : ownKnob Try.prog.godebug = none := by kernel_rfl
theorem laidOut : laidOutB Try.prog = true := by kernel_rfl
set_option maxRecDepth 100000 in
theorem lifted (os : Os) (started : os.Started) (H : Type) (enc : TypeId × Value → H) :
    ReturnsInHanded {} Try.checked os 4 .any (Rows.dictMapsSpec.pre6 enc Try.prog Try.f4 Rows.dictMapsRow.domain false) (Rows.dictMapsSpec.post enc Try.prog Try.f4 false true false false) := by
  refine returnsInHanded_of_change_sized (C := Try.checked) own started (by kernel_rfl) Try.func4
    (ChangeSpec.witness6 (enc := enc) (C := Try.checked) false ⟨#[], #[.int .i64 0, .slice none 0 0], []⟩ 8 (by kernel_rfl) (by kernel_rfl) (by kernel_rfl) (by kernel_rfl)) ?_
  intro W base args ds gs before hval0 hW hcnd hsz0 _
  have hval : ∀ (j : Nat) t v, Try.f4.params[j]? = some t → args[j]? = some v → Value.okWide Try.prog W .any base t v := hval0
  have hsz : (DataW.weightsEach Try.prog (Try.f4.params.toList ++ Rows.dictMapsSpec.plain.varTypes Try.prog) (ds ++ gs)).all (· ≤ reachBytes) = true := hsz0
  have hW' := hW
  obtain ⟨p, q, hA0, hV, rfl, hfz, hnd⟩ := hW
  have hA : DataW.TrodAll enc Try.prog W 0 (fun _ => true) true Try.f4.params.toList args.toList ds p := hA0
  rw [Try.params4] at hA hval hsz
  obtain ⟨v0, vs0, d0, ds0, p0, q0, hargs, rfl, rfl, h0, r0⟩ := trodAll_cons hA
  obtain ⟨v1, vs1, d1, ds1, p1, q1, rfl, rfl, rfl, h1, r1⟩ := trodAll_cons r0
  obtain ⟨rfl, rfl, rfl⟩ := trodAll_nil r1
  obtain rfl : args = #[v0, v1] := by cases args; simp_all
  obtain ⟨rfl, rfl⟩ := trodVars_none hV
  obtain ⟨a0, rfl, rfl, rfl, w0⟩ := open_int Try.underlying3 (hval 0 3 v0 rfl rfl) h0
  have hlt1 : ∀ x ∈ p1, x.block < W.heap.size := fun x hx => by simpa using hW'.lt x (by simp [hx])
  have hk1 := h1
  obtain ⟨ad1, ln1, cp1, rfl⟩ := okWide_slice Try.underlying25 (hval 1 25 v1 rfl rfl)
  obtain ⟨fuel1, hf1⟩ := h1
  obtain ⟨g1, o1, hA1', hL1, hO1⟩ := open_ops (x := (d1, p1)) (j := 1) (by simpa [Value.cells] using hf1) hsz rfl rfl
  clear hA0 hval0 hsz0
  refine (Maps_walk a0 ad1 g1 o1 ln1 cp1 W hA1' hL1 hO1).mono fun e W' ⟨he, bel⟩ => ?_
  subst he
  exact ⟨_, rfl, _, _, _, [], _, [], hW', trodAll_mk1 (shut_bool Try.underlying4 _), (trodAll_cons_mk (shut_int Try.underlying3 w0) (trodAll_cons_mk (Below.trod laidOut (by kernel_rfl) (of_decide_eq_true (by kernel_rfl)) hk1 bel hlt1) trodAll_mk0)), rfl, bel.frame _, fun h => by cases h⟩

theorem over : Rows.dictMapsRow.holds Try.pinned (OpenSpec.ofChange Rows.dictMapsSpec) :=
  OpenClaim.holds_of_wide 4 Try.f4 rfl rfl rfl rfl rfl rfl rfl ⟨rfl, rfl, rfl, rfl, rfl⟩ rfl rfl rfl rfl rfl (by kernel_rfl) Try.func4 (by kernel_rfl)
    (of_decide_eq_true (by kernel_rfl)) (by unfold Func.isWrapper; first | (rw [if_pos (by decide +kernel)]; kernel_rfl) | (rw [if_neg (by decide +kernel)]; exact ⟨rfl, rfl⟩))
    (fun os started H enc _ => lifted os started H enc)
end Go.Proofs.Ytdemodhjlbkbeaa.dictMaps
namespace Go.Proofs.Ytdemodhjlbkbeaa
theorem dictMaps_holds : Rows.DictMapsSaid := dictMaps.over
#print axioms dictMaps_holds
end Go.Proofs.Ytdemodhjlbkbeaa
