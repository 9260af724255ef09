import Derived.Test.YtgbplghokciimaaDoorWA
import Derived.Test.YtgbplghokciimaaDoorRB
import Derived.Test.YtgbplghokciimaaDoorSpC
namespace Go.Proofs.YtgbplghokciimaaDoor.I
open Go.RowKit Go.Shelf
set_option linter.unusedVariables false
attribute [local go_sem] Oper.semAt_some
theorem sel_filter (T : List Tw) (lo hi : LBd) : ∀ l : List Nat, (∀ i ∈ l, i < T.length) → selE T (l.filter (inL T lo hi)) = (selE T l).filter fun e => loL e.1 lo && hiL e.1 hi
  | [], _ => rfl
  | i :: l, h => by
    have ih := sel_filter T lo hi l (fun j hj => h j (List.mem_cons_of_mem _ hj))
    have hi' := h i (by simp)
    have e1 : selE T (i :: l) = T[i].e :: selE T l := by
      have := selE_snoc (T := T) [] hi'
      unfold selE at this ⊢
      rw [List.map_cons]
      congr 1
      simpa using this
    rw [e1, List.filter_cons, List.filter_cons, inL_at hi']
    by_cases hb : (loL T[i].e.1 lo && hiL T[i].e.1 hi) = true
    · rw [if_pos hb, if_pos hb]
      have e2 : ∀ m, selE T (i :: m) = T[i].e :: selE T m := fun m => by
        have := selE_snoc (T := T) [] hi'
        unfold selE at this ⊢
        rw [List.map_cons]
        congr 1
        simpa using this
      rw [e2, ih]
    · rw [if_neg hb, if_neg hb]; exact ih
theorem pick_all (L : List En) (back : Bool) : pick L back 0 L.length = turnE L back := by
  refine List.ext_getElem (by rw [pick_len, turnE_len]) (fun i h1 h2 => ?_)
  rw [pick_len] at h1
  rw [pick_get _ _ _ _ _ h1, turnE_get _ _ _ h1, at_getD L (by cases back <;> simp <;> omega)]
  congr 1
  cases back <;> simp
theorem lexL_sel (T : List Tw) (back : Bool) (lo hi : LBd) : selE T (lexL T back lo hi) = turnE (rngL (ens T) lo hi) back := by
  unfold lexL
  rw [sel_filter T lo hi _ (fun i hi' => by
    unfold wkL at hi'
    obtain ⟨j, hj, rfl⟩ := List.mem_map.1 hi'
    have := List.mem_range.1 hj
    exact trn_lt (by omega)), sel_pick]
  have := pick_all (ens T) back
  rw [ens_len] at this
  rw [this]
  unfold rngL
  rw [turnE_filter]
theorem lexL_len (T : List Tw) (back : Bool) (lo hi : LBd) : (lexL T back lo hi).length = (rngL (ens T) lo hi).length := by
  have := congrArg List.length (lexL_sel T back lo hi)
  rw [selE_len, turnE_len] at this
  exact this
set_option maxHeartbeats 4000000 in
set_option maxRecDepth 100000 in
theorem CountLex_any (g : Nat) (S : SkS) (N : Nat) (lo hi : LBd) (w : World) (h : Bd w g S N) (hN : N ≤ 1000000) : Calls Tryd.prog 54 #[.pointer (some ⟨g, 0, none⟩), lxV lo, lxV hi] w fun e w' => e = .returned (.int .i64 ((rngL (ens S.T) lo hi).length : Int)) ∧ Below w.heap.size w w' := by
  have hlen := h.len
  rw [← lexL_len S.T false lo hi]
  have HLL : Hid ((lexL S.T false lo hi).length ≤ S.T.length) := by
    show _ ≤ _
    have h1 : (lexL S.T false lo hi).length ≤ (wkL false S.T.length 0 S.T.length).length := List.length_filter_le _ _
    have h2 : (wkL false S.T.length 0 S.T.length).length = S.T.length := by unfold wkL; simp
    omega
  obtain ⟨l0, l1, l2⟩ := lo
  obtain ⟨h0, h1, h2⟩ := hi
  obtain ⟨W3, hW3⟩ : ∃ W3, W3 = ((w.alloc (.cells #[.string l0, .int .i64 l1, .bool l2] 30)).alloc (.cells #[.string h0, .int .i64 h1, .bool h2] 30)).alloc (.cells #[.int .i64 0] 3) := ⟨_, rfl⟩
  obtain ⟨q0, q1, q2, q3, q4⟩ := alloc3 w (.cells #[.string l0, .int .i64 l1, .bool l2] 30) (.cells #[.string h0, .int .i64 h1, .bool h2] 30) (.cells #[.int .i64 0] 3)
  rw [← hW3] at q0 q1 q2 q3 q4
  have HB3 : Hid (Below w.heap.size w W3) := q4
  have HN3 : Hid (Blk W3 (w.heap.size + 1 + 1) [.int .i64 0] 3) := q2
  have x0 : W3.cell? ⟨w.heap.size, 0, none⟩ = some (.string l0) := by rw [cell_of_row _ _ _ _ _ _ q0]; rfl
  have x1 : W3.cell? ⟨w.heap.size, 1, none⟩ = some (.int .i64 l1) := by rw [cell_of_row _ _ _ _ _ _ q0]; rfl
  have x2 : W3.cell? ⟨w.heap.size, 2, none⟩ = some (.bool l2) := by rw [cell_of_row _ _ _ _ _ _ q0]; rfl
  have y0 : W3.cell? ⟨w.heap.size + 1, 0, none⟩ = some (.string h0) := by rw [cell_of_row _ _ _ _ _ _ q1]; rfl
  have y1 : W3.cell? ⟨w.heap.size + 1, 1, none⟩ = some (.int .i64 h1) := by rw [cell_of_row _ _ _ _ _ _ q1]; rfl
  have y2 : W3.cell? ⟨w.heap.size + 1, 2, none⟩ = some (.bool h2) := by rw [cell_of_row _ _ _ _ _ _ q1]; rfl
  have HLT : Hid _ := h.lts
  have HWI : Hid _ := within_any g S N (l0, l1, l2) (h0, h1, h2) false W3 (h.below q4)
  clear h q0 q1 q2 q3 q4
  refine calls_of_wpB (n := 10) Tryd.func54 rfl ?_
  simp only [Tryd.ntmps54, List.size_toArray, List.length_cons, List.length_nil, Nat.reduceAdd, Nat.reduceSub, Array.replicate_succ, Array.replicate_zero, List.push_toArray, List.append_toArray, List.nil_append, List.cons_append]
  refine wpB_then (n := 10) ?_
  gi_wp2
  refine wpB_then (n := 10) ?_
  gi_wp2
  rw [← hW3]
  clear hW3
  refine wpB_seq (wpB_then (n := 10) ?_)
  gi_wp2_with fail
  refine ⟨trivial, (callsIn_wide.2 HWI.out).mono ?_⟩
  rintro e w8 ⟨bB, bK, bL, bH, rfl, hlx, hbz, hb8⟩
  obtain ⟨nb, hnb⟩ : ∃ nb, w.heap.size + 1 + 1 = nb := ⟨_, rfl⟩
  rw [hnb] at HN3 ⊢
  have HNB : Hid (w.heap.size ≤ nb ∧ nb < w8.heap.size) := ⟨by omega, by have := HN3.out.lt; have := hb8.size; omega⟩
  have HN8 : Hid (Blk w8 nb [.int .i64 0] 3) := cells_below HN3.out hb8
  have HB8 : Hid (Below w.heap.size w w8) := bel_to HB3.out hb8 (Nat.le_refl _)
  have HLX : Hid (LBox g bB bK bL bH false (l0, l1, l2) (h0, h1, h2) S N w8) := hlx
  have HLB : Hid (∀ q ∈ bB :: bK :: bL :: bH :: bblk g S, q < w8.heap.size) := hlx.lts
  have HNO : Hid (nb ∉ bB :: bK :: bL :: bH :: bblk g S) := fun hm => by
    have hz := HN3.out.lt
    simp only [List.mem_cons] at hm
    rcases hm with q | q | q | q | q
    · omega
    · omega
    · omega
    · omega
    · have := HLT.out _ q; omega
  clear hlx hb8 hbz x0 x1 x2 y0 y1 y2 hnb
  gi_wp2
  refine wpB_block ?_
  have HSQ : Hid _ := within_seq 9 g bB bK bL bH w8.heap.size false (l0, l1, l2) (h0, h1, h2) S N hN hlen
  refine WpB_act (fun a0 ha0 => ?_)
  refine wpB_rangeQ pE_not (n := 10) (α := Nat) (encs := encT S.T) (L := lexL S.T false (l0, l1, l2) (h0, h1, h2)) (box := LBox g bB bK bL bH false (l0, l1, l2) (h0, h1, h2) S N) Tryd.func54 (gf := 93) (lb := #[.pointer (some ⟨bB, 0, none⟩), .pointer (some ⟨bK, 0, none⟩), .pointer (some ⟨bL, 0, none⟩), .pointer (some ⟨bH, 0, none⟩)]) (by rw [ha0]; rfl) (enters_of Tryd.func93 (by kernel_rfl) rfl) HSQ.out (fun _ => rfl)
    (fun pre A => Blk A nb [.int .i64 (pre.length : Int)] 3 ∧ LBox g bB bK bL bH false (l0, l1, l2) (h0, h1, h2) S N A ∧ Below w.heap.size w A)
    (fun cd pre A => False)
    ?hI ?hIx ?hbox ?h0
    (fun (x : Nat) (a' : Act) (A : World) => a' = { tmps := a0.tmps.setIfInBounds 12 (ptr ((S.T[x]?).map Tw.b)), defers := [] }) ?hAx ?assign ?body ?done ?stop
  case hI =>
    rintro s A B row ⟨h1, h2, h3⟩ hg hr
    exact ⟨own_row h1 hg hr, h2.own HLB.out hg hr, ownFrom_below (β := Unit) (Nat.le_refl _) HB8.out.size () A B row h3 hg hr⟩
  case hIx => rintro cd s A B row h hg hr; exact h
  case hbox =>
    rintro pre A ⟨h1, h2, h3⟩
    exact h2
  case h0 => exact ⟨HN8.out, HLX.out, HB8.out⟩
  case hAx =>
    rintro x a' s A B row h1 hg hr
    exact h1
  case stop => rintro D cd pre W hD hpre h hDr; exact h.elim
  case assign =>
    intro ll pre x A K hpre hI hK
    have HKK : Hid _ := hK
    clear hK hI
    have HA0 : Hid _ := ha0
    rw [ha0]
    obtain ⟨pp, hpp⟩ : ∃ pp, ptr ((S.T[x]?).map Tw.b) = pp := ⟨_, rfl⟩
    simp only [encT, hpp, List.zip_toArray, List.zip_cons_cons, List.zip_nil_right, List.foldl_toArray, List.foldl_cons, List.foldl_nil, List.setIfInBounds_toArray, List.set_cons_zero, List.set_cons_succ]
    clear ha0
    gi_wp2
    refine HKK.out _ _ (Below.refl _ A) ?_
    rw [HA0.out, hpp]; rfl
  case body =>
    rintro ll pre x a' A hll hpre ⟨hn, hlx, hb⟩ ha'
    have hlp : pre.length + 1 ≤ S.T.length := by
      have := hpre.length_le
      rw [List.length_append] at this
      have := HLL.out
      simp at *
      omega
    obtain ⟨i0, if0⟩ := brow1 hn
    have hnl : nb < A.heap.size := hn.lt
    have hpw : IntKind.i64.wrap ((pre.length : Int) + 1) = (pre.length : Int) + 1 := by rw [IntKind.wrap_i64] <;> omega
    have HN : Hid (Blk A nb [.int .i64 (pre.length : Int)] 3) := hn
    have HX : Hid _ := hlx
    have HB : Hid (Below w.heap.size w A) := hb
    obtain ⟨pp, hpp⟩ : ∃ pp, ptr ((S.T[x]?).map Tw.b) = pp := ⟨_, rfl⟩
    rw [hpp] at ha'
    rw [ha', ha0]
    simp only [List.setIfInBounds_toArray, List.set_cons_zero, List.set_cons_succ]
    clear ha' ha0 hn hlx hb hpre hpp
    gi_wp2
    refine ⟨KP.of_KA (KA.setCell _ _ _ HNB.out.2), ?_, ?_, ?_⟩
    · have := HN.out.set 0 (.int .i64 ((pre.length : Int) + 1))
      rw [List.length_append]
      exact this
    · exact HX.out.to (fun q hq => heap_setCell_other _ _ _ _ (fun e => HNO.out (by have e2 : q = nb := e; rw [← e2]; exact hq)))
    · exact HB.out.setCell (p := ⟨nb, 0, none⟩) HNB.out.1 _
  case done =>
    rintro D A hD ⟨hn, hlx, hb⟩ hDr
    rw [ha0]
    obtain ⟨i0, if0⟩ := brow1 hn
    have HDR : Hid _ := hDr
    have HB : Hid (Below w.heap.size w A) := hb
    generalize (lexL S.T false (l0, l1, l2) (h0, h1, h2)).length = LL at *
    clear ha0 hlx hb hDr hn
    refine wpB_of (n := 10) ?_
    gi_wp2
    refine ⟨by simp, .inl ⟨_, _, rfl, run_takeDeferred HDR.out, ?_⟩⟩
    refine ⟨.int .i64 (LL : Int), ?res, rfl, ?bel⟩
    case bel => exact put_below HB.out (by have := HB8.out.size; omega)
    case res => simp [results, Tryd.results54, go_sem]
end Go.Proofs.YtgbplghokciimaaDoor.I
namespace Go.Proofs.YtgbplghokciimaaDoor.I
open Go.RowKit Go.Shelf
set_option linter.unusedVariables false
attribute [local go_sem] Oper.semAt_some
def skN (skip : Int) (k : Nat) : Int := if 0 < skip then max (skip - (k : Int)) 0 else skip
theorem cut_full {E FL : List En} {skip most : Int} (h : E <+: FL) (hm : ((cutE E skip most).length : Int) = most) : cutE E skip most = cutE FL skip most := by
  obtain ⟨R, rfl⟩ := h
  have h0 : ¬ most < 0 := by omega
  unfold cutE at hm ⊢
  rw [if_neg h0] at hm
  rw [if_neg h0, if_neg h0]
  generalize (max skip 0).toNat = s at *
  generalize hM : most.toNat = m at *
  rw [List.length_take, List.length_drop] at hm
  rcases Nat.eq_zero_or_pos m with q | q
  · subst q; simp
  · have : s + m ≤ E.length := by omega
    rw [List.drop_append_of_le_length (by omega), List.take_append_of_le_length (by rw [List.length_drop]; omega)]
theorem cut_skip {E : List En} {x : En} {skip most : Int} (h : (E.length : Int) < skip) : cutE (E ++ [x]) skip most = cutE E skip most := by
  unfold cutE
  have e1 : (E ++ [x]).drop (max skip 0).toNat = [] := List.drop_of_length_le (by rw [List.length_append]; simp; omega)
  have e2 : E.drop (max skip 0).toNat = [] := List.drop_of_length_le (by omega)
  rw [e1, e2]
theorem cut_more {E : List En} {x : En} {skip most : Int} (h : skip ≤ (E.length : Int)) (hm : ¬ ((cutE E skip most).length : Int) = most) : cutE (E ++ [x]) skip most = cutE E skip most ++ [x] := by
  unfold cutE at hm ⊢
  rw [List.drop_append_of_le_length (by omega)]
  by_cases h0 : most < 0
  · rw [if_pos h0, if_pos h0]
  · rw [if_neg h0] at hm
    rw [if_neg h0, if_neg h0]
    generalize (max skip 0).toNat = s at *
    rw [List.length_take] at hm
    have hl : (E.drop s).length < most.toNat := by omega
    have e1 : (E.drop s ++ [x]).take most.toNat = E.drop s ++ [x] := List.take_of_length_le (by rw [List.length_append]; simp only [List.length_cons, List.length_nil]; omega)
    have e2 : (E.drop s).take most.toNat = E.drop s := List.take_of_length_le (by omega)
    rw [e1, e2]
theorem cut_le (E : List En) (skip most : Int) : (cutE E skip most).length ≤ E.length := by
  unfold cutE
  split
  · rw [List.length_drop]; omega
  · rw [List.length_take, List.length_drop]; omega
theorem opIn_append_own {F : Fence} {n : Nat} {P : Program} (w : World) {o : Oper} {a : Act} {K : Act → World → Prop} {Q : Exit → Act → World → Prop}
    (s x : Operand) (t : TypeId) (hop : o.op = Op.call { callee := Callee.builtin Builtin.append, args := #[s, x], argTypes := #[t, t] })
    (base : Nat) (e : TypeId) (i : TypeInfo) (z : Value) (size bytes : Nat) (h1 : P.underlying t = some (.slice e)) (h2 : P.info? e = some i) (h3 : i.zero = some z) (h4 : i.size = size) (h5 : i.bytes = bytes) (h6 : z.cells.size = size) (h7 : 0 < size)
    (v : Value) (k : Nat) (xs : List Value) (hs : a.eval s = v) (hown : w.ownsRow base e size v k xs) (ad : Addr) (m c : Nat) (news : List Value) (hx : a.eval x = .slice (some ad) m c) (hn : news.length = m * size)
    (hc : ∀ j u, news[j]? = some u → w.cell? (ad.add j) = some u) (h1c : ∀ u ∈ news, u.oneCell' = true) (b1 : k + m ≤ maxLen) (b2 : (k + m) * bytes ≤ 140737488355328) (b3 : base ≤ w.heap.size)
    (hK : ∀ v' w', w'.ownsRow base e size v' (k + m) (xs ++ news) → w.grownBy w' v.ownBlock → K (a.put o.dst v') w') :
    o.wpIn F n P a w K Q := by
  obtain ⟨v', w', hrun, r1, r2, r3⟩ := run_append_own (P := P) w base t o.type e i z size bytes h1 h2 h3 h4 h5 h6 h7 v k xs hown ad m c news hn hc h1c b1 b2 b3
  unfold Oper.wpIn
  refine ⟨?_, ?_⟩
  · simp [Oper.about, hop, resolve, Target.leads, Sem.run_pure]
  · rw [Oper.semAt_plain F _ _ (by rw [hop]; intro c hc'; cases hc')]
    simp [execOp, hop, resolve, invoke, builtin, hs, hx, hrun, Oper.uponIn]
    exact hK v' w' r1 r2
theorem KP.grownE {A B : World} {row : Option Nat} {B0 : Nat} (h : A.grownBy B row) (hr : ∀ r, row = some r → ∃ cur, A.heap[r]? = some (.cells cur 39)) : KP pE B0 A B :=
  ⟨h.size, fun k o hk e hp => (h.block k (row_lt e) (fun x => by
    obtain ⟨cur, hc⟩ := hr k x.symm
    rw [hc] at e
    cases e
    simp [pE] at hp)).trans e⟩
theorem own_cells {w : World} {base e size : Nat} {v : Value} {n : Nat} {xs : List Value} (h : w.ownsRow base e size v n xs) : ∀ r, v.ownBlock = some r → ∃ cur, w.heap[r]? = some (.cells cur e) := fun r hr => by
  rcases h.2 with ⟨rfl, _⟩ | ⟨g, cap, cur, rfl, hb, hg, _⟩
  · cases hr
  · have : g = r := by simpa [Value.ownBlock] using hr
    subst this
    exact ⟨cur, hg⟩
theorem own_owned {A B : World} {row : Option Nat} {b0 base e size : Nat} {v : Value} {n : Nat} {xs : List Value} (h : A.ownsRow base e size v n xs) (hg : A.grownBy B row) (hr : ∀ r, row = some r → b0 ≤ r ∧ ∃ o : Obj, A.heap[r]? = some o ∧ o.isCells = false) : B.ownsRow base e size v n xs := by
  refine ⟨h.1, ?_⟩
  rcases h.2 with h1 | ⟨g, cap, cur, hv, hb, hgr, r⟩
  · exact Or.inl h1
  · exact Or.inr ⟨g, cap, cur, hv, hb, own_row hgr hg hr, r⟩
set_option maxHeartbeats 4000000 in
set_option maxRecDepth 100000 in
theorem ByLex_any (g : Nat) (S : SkS) (N : Nat) (lo hi : LBd) (back : Bool) (skip most : Int) (hsk : i64B skip) (hmo : i64B most) (w : World) (h : Bd w g S N) (hN : N ≤ 1000000) : Calls Tryd.prog 51 #[.pointer (some ⟨g, 0, none⟩), lxV lo, lxV hi, .bool back, .int .i64 skip, .int .i64 most] w fun e w' => ∃ r, e = .returned r ∧ w'.ownsRow w.heap.size 39 3 r (cutE (turnE (rngL (ens S.T) lo hi) back) skip most).length (flatV (cutE (turnE (rngL (ens S.T) lo hi) back) skip most)) ∧ Below w.heap.size w w' := by
  have hlen := h.len
  rw [← lexL_sel S.T back lo hi]
  have HLL : Hid ((lexL S.T back lo hi).length ≤ S.T.length) := by
    show _ ≤ _
    have h1 : (lexL S.T back lo hi).length ≤ (wkL back S.T.length 0 S.T.length).length := List.length_filter_le _ _
    have h2 : (wkL back S.T.length 0 S.T.length).length = S.T.length := by unfold wkL; simp
    omega
  obtain ⟨iE, hiE, hzE0, hzE, hzE2⟩ := info_of infoE
  have HIE : Hid (Tryd.prog.info? 39 = some iE ∧ iE.zero = some (.agg #[.string ⟨#[]⟩, .int .i64 0, vz]) ∧ iE.size = 3 ∧ iE.bytes = 32) := ⟨hiE, hzE0, hzE, hzE2⟩
  obtain ⟨l0, l1, l2⟩ := lo
  obtain ⟨h0, h1, h2⟩ := hi
  obtain ⟨CL, hCL⟩ : ∃ CL, cutE (selE S.T (lexL S.T back (l0, l1, l2) (h0, h1, h2))) skip most = CL := ⟨_, rfl⟩
  have HCL : Hid (cutE (selE S.T (lexL S.T back (l0, l1, l2) (h0, h1, h2))) skip most = CL) := hCL
  rw [hCL]
  obtain ⟨W5, hW5⟩ : ∃ W5, W5 = ((((w.alloc (.cells #[.string l0, .int .i64 l1, .bool l2] 30)).alloc (.cells #[.string h0, .int .i64 h1, .bool h2] 30)).alloc (.cells #[.int .i64 skip] 3)).alloc (.cells #[.int .i64 most] 3)).alloc (.cells #[.slice none 0 0] 35) := ⟨_, rfl⟩
  have hb5 : Below w.heap.size w W5 := by
    rw [hW5]
    repeat (refine Below.alloc ?_ (by simp <;> omega) _)
    exact Below.refl _ _
  have q0 : W5.heap[w.heap.size]? = some (.cells #[.string l0, .int .i64 l1, .bool l2] 30) := by
    rw [hW5]
    repeat (first | (refine at_newN ?_; simp; done) | refine at_old ?_)
  have q1 : W5.heap[w.heap.size + 1]? = some (.cells #[.string h0, .int .i64 h1, .bool h2] 30) := by
    rw [hW5]
    repeat (first | (refine at_newN ?_; simp; done) | refine at_old ?_)
  have q2 : W5.heap[w.heap.size + 1 + 1]? = some (.cells #[.int .i64 skip] 3) := by
    rw [hW5]
    repeat (first | (refine at_newN ?_; simp; done) | refine at_old ?_)
  have q3 : W5.heap[w.heap.size + 1 + 1 + 1]? = some (.cells #[.int .i64 most] 3) := by
    rw [hW5]
    repeat (first | (refine at_newN ?_; simp; done) | refine at_old ?_)
  have q4 : W5.heap[w.heap.size + 1 + 1 + 1 + 1]? = some (.cells #[.slice none 0 0] 35) := by
    rw [hW5]
    repeat (first | (refine at_newN ?_; simp; done) | refine at_old ?_)
  have HB5 : Hid (Below w.heap.size w W5) := hb5
  have HQ5 : Hid (W5.heap[w.heap.size + 1 + 1]? = some (.cells #[.int .i64 skip] 3) ∧ W5.heap[w.heap.size + 1 + 1 + 1]? = some (.cells #[.int .i64 most] 3) ∧ W5.heap[w.heap.size + 1 + 1 + 1 + 1]? = some (.cells #[.slice none 0 0] 35)) := ⟨q2, q3, q4⟩
  have x0 : W5.cell? ⟨w.heap.size, 0, none⟩ = some (.string l0) := by rw [cell_of_row _ _ _ _ _ _ q0]; rfl
  have x1 : W5.cell? ⟨w.heap.size, 1, none⟩ = some (.int .i64 l1) := by rw [cell_of_row _ _ _ _ _ _ q0]; rfl
  have x2 : W5.cell? ⟨w.heap.size, 2, none⟩ = some (.bool l2) := by rw [cell_of_row _ _ _ _ _ _ q0]; rfl
  have y0 : W5.cell? ⟨w.heap.size + 1, 0, none⟩ = some (.string h0) := by rw [cell_of_row _ _ _ _ _ _ q1]; rfl
  have y1 : W5.cell? ⟨w.heap.size + 1, 1, none⟩ = some (.int .i64 h1) := by rw [cell_of_row _ _ _ _ _ _ q1]; rfl
  have y2 : W5.cell? ⟨w.heap.size + 1, 2, none⟩ = some (.bool h2) := by rw [cell_of_row _ _ _ _ _ _ q1]; rfl
  have HLT : Hid _ := h.lts
  have HWI : Hid _ := within_any g S N (l0, l1, l2) (h0, h1, h2) back W5 (h.below hb5)
  clear h hb5 q0 q1 q2 q3 q4 hCL hiE hzE0 hzE hzE2
  refine calls_of_wpB (n := 10) Tryd.func51 rfl ?_
  simp only [Tryd.ntmps51, List.size_toArray, List.length_cons, List.length_nil, Nat.reduceAdd, Nat.reduceSub, Array.replicate_succ, Array.replicate_zero, List.push_toArray, List.append_toArray, List.nil_append, List.cons_append]
  refine wpB_then (n := 10) ?_
  gi_wp2
  refine wpB_then (n := 10) ?_
  gi_wp2
  rw [← hW5]
  clear hW5
  refine wpB_seq (wpB_then (n := 10) ?_)
  gi_wp2_with fail
  refine ⟨trivial, (callsIn_wide.2 HWI.out).mono ?_⟩
  rintro e w8 ⟨bB, bK, bL, bH, rfl, hlx, hbz, hb8⟩
  obtain ⟨sb, hsb⟩ : ∃ sb, w.heap.size + 1 + 1 = sb := ⟨_, rfl⟩
  rw [hsb] at HQ5 ⊢
  obtain ⟨mb, hmb⟩ : ∃ mb, sb + 1 = mb := ⟨_, rfl⟩
  rw [hmb] at HQ5 ⊢
  obtain ⟨fb, hfb⟩ : ∃ fb, mb + 1 = fb := ⟨_, rfl⟩
  rw [hfb] at HQ5 ⊢
  have hf5 := row_lt HQ5.out.2.2
  have hsz8 := hb8.size
  have HFZ : Hid (w.heap.size ≤ fb ∧ fb < w8.heap.size) := ⟨by omega, by omega⟩
  have HSZ : Hid (sb ≠ fb ∧ sb < w8.heap.size) := ⟨by omega, by omega⟩
  have HMZ : Hid (mb ≠ fb ∧ mb < w8.heap.size) := ⟨by omega, by omega⟩
  have HSM : Hid (w.heap.size ≤ sb ∧ fb ≠ sb ∧ mb ≠ sb) := ⟨by omega, by omega, by omega⟩
  have HF8 : Hid (Blk w8 fb [.slice none 0 0] 35) := cells_below HQ5.out.2.2 hb8
  have HS8 : Hid (Blk w8 sb [.int .i64 skip] 3) := cells_below HQ5.out.1 hb8
  have HM8 : Hid (Blk w8 mb [.int .i64 most] 3) := cells_below HQ5.out.2.1 hb8
  have HB8 : Hid (Below w.heap.size w w8) := bel_to HB5.out hb8 (Nat.le_refl _)
  have HLX : Hid (LBox g bB bK bL bH back (l0, l1, l2) (h0, h1, h2) S N w8) := hlx
  have HLB : Hid (∀ q ∈ bB :: bK :: bL :: bH :: bblk g S, q < w8.heap.size) := hlx.lts
  have HNX : Hid (∀ k, w.heap.size ≤ k → k < W5.heap.size → k ∉ bB :: bK :: bL :: bH :: bblk g S) := fun k hk1 hk2 hm => by
    simp only [List.mem_cons] at hm
    rcases hm with q | q | q | q | q
    · omega
    · omega
    · omega
    · omega
    · have := HLT.out _ q; omega
  have HNO : Hid (fb ∉ bB :: bK :: bL :: bH :: bblk g S) := HNX.out fb (by omega) (by omega)
  have HNS : Hid (sb ∉ bB :: bK :: bL :: bH :: bblk g S) := HNX.out sb (by omega) (by omega)
  clear hlx hb8 hbz x0 x1 x2 y0 y1 y2 hsb hmb hfb hf5 hsz8
  gi_wp2
  refine wpB_block ?_
  have HSQ : Hid _ := within_seq 9 g bB bK bL bH w8.heap.size back (l0, l1, l2) (h0, h1, h2) S N hN hlen
  refine WpB_act (fun a0 ha0 => ?_)
  refine wpB_rangeQ pE_not (n := 10) (α := Nat) (encs := encT S.T) (L := lexL S.T back (l0, l1, l2) (h0, h1, h2)) (box := (LBox g bB bK bL bH back (l0, l1, l2) (h0, h1, h2) S N)) Tryd.func51 (gf := 93) (lb := #[.pointer (some ⟨bB, 0, none⟩), .pointer (some ⟨bK, 0, none⟩), .pointer (some ⟨bL, 0, none⟩), .pointer (some ⟨bH, 0, none⟩)]) (by rw [ha0]; rfl) (enters_of Tryd.func93 (by kernel_rfl) rfl) HSQ.out (fun _ => rfl)
    (fun pre A => (∃ v, Blk A fb [v] 35 ∧ A.ownsRow w8.heap.size 39 3 v (cutE (selE S.T pre) skip most).length (flatV (cutE (selE S.T pre) skip most))) ∧ Blk A sb [.int .i64 (skN skip pre.length)] 3 ∧ Blk A mb [.int .i64 most] 3 ∧ LBox g bB bK bL bH back (l0, l1, l2) (h0, h1, h2) S N A ∧ Below w.heap.size w A ∧ w8.heap.size ≤ A.heap.size)
    (fun cd pre A => cd = .exit 0 ∧ (∃ v, Blk A fb [v] 35 ∧ A.ownsRow w8.heap.size 39 3 v CL.length (flatV CL)) ∧ Below w.heap.size w A)
    ?hI ?hIx ?hbox ?h0
    (fun (x : Nat) (a' : Act) (A : World) => a' = { tmps := (a0.tmps.setIfInBounds 20 (ptr ((S.T[x]?).map Tw.b))).setIfInBounds 14 (ptr ((S.T[x]?).map Tw.b)), defers := [] }) ?hAx ?assign ?body ?done ?stop
  case hI =>
    rintro s A B row ⟨⟨v, h1, h2⟩, h3, h4, h5, h6, h7⟩ hg hr
    exact ⟨⟨v, own_row h1 hg hr, own_owned h2 hg hr⟩, own_row h3 hg hr, own_row h4 hg hr, h5.own HLB.out hg hr, ownFrom_below (β := Unit) (Nat.le_refl _) HB8.out.size () A B row h6 hg hr, Nat.le_trans h7 hg.size⟩
  case hIx =>
    rintro cd s A B row ⟨h0, ⟨v, h1, h2⟩, h6⟩ hg hr
    exact ⟨h0, ⟨v, own_row h1 hg hr, own_owned h2 hg hr⟩, ownFrom_below (β := Unit) (Nat.le_refl _) HB8.out.size () A B row h6 hg hr⟩
  case hbox =>
    rintro pre A ⟨h1, h2, h3, h4, h5, h6⟩
    exact h4
  case h0 =>
    refine ⟨⟨_, HF8.out, ?_⟩, ?_, HM8.out, HLX.out, HB8.out, Nat.le_refl _⟩
    · have e : cutE (selE S.T []) skip most = [] := by
        have := cut_le (selE S.T []) skip most
        exact List.length_eq_zero_iff.1 (by have h0 : (selE S.T []).length = 0 := rfl; omega)
      rw [e]
      exact ⟨rfl, Or.inl ⟨rfl, rfl⟩⟩
    · have e : skN skip ([] : List Nat).length = skip := by
        unfold skN
        simp only [List.length_nil]
        split
        · omega
        · rfl
      rw [e]; exact HS8.out
  case hAx =>
    rintro x a' s A B row h1 hg hr
    exact h1
  case assign =>
    intro ll pre x A K hpre hI hK
    have HKK : Hid _ := hK
    clear hK hI
    have HA0 : Hid _ := ha0
    rw [ha0]
    obtain ⟨pp, hpp⟩ : ∃ pp, ptr ((S.T[x]?).map Tw.b) = pp := ⟨_, rfl⟩
    simp only [encT, hpp, List.zip_toArray, List.zip_cons_cons, List.zip_nil_right, List.foldl_toArray, List.foldl_cons, List.foldl_nil, List.setIfInBounds_toArray, List.set_cons_zero, List.set_cons_succ]
    clear ha0
    gi_wp2
    refine HKK.out _ _ (Below.refl _ A) ?_
    rw [HA0.out, hpp]; rfl
  case body =>
    rintro ll pre x a' A hll hpre ⟨⟨v, hfv, hown⟩, hsv, hmv, hlx, hb, hza⟩ ha'
    obtain ⟨P8, k8, hkf⟩ := own_form hown
    subst hkf
    have hmem : x ∈ lexL S.T back (l0, l1, l2) (h0, h1, h2) := hpre.subset (by simp)
    have hxl : x < S.T.length := by
      unfold lexL at hmem
      have hmem := (List.mem_filter.1 hmem).1
      unfold wkL at hmem
      obtain ⟨j, hj, rfl⟩ := List.mem_map.1 hmem
      have := List.mem_range.1 hj
      exact trn_lt (by omega)
    have hlp : pre.length + 1 ≤ S.T.length := by
      have h1 := hpre.length_le
      rw [List.length_append] at h1
      have h2 := HLL.out
      have h3 : [x].length = 1 := rfl
      omega
    obtain ⟨t, ht⟩ : ∃ t, (cutE (selE S.T pre) skip most).length = t := ⟨_, rfl⟩
    rw [ht] at hown hfv
    have HT : Hid ((cutE (selE S.T pre) skip most).length = t) := ht
    have HTB : Hid (t ≤ 1000000) := by
      have h1 := cut_le (selE S.T pre) skip most
      rw [selE_len] at h1
      show t ≤ _
      omega
    have HEL : Hid ((selE S.T pre).length = pre.length) := selE_len _ _
    have HVX : Hid (selE S.T (pre ++ [x]) = selE S.T pre ++ [S.T[x].e]) := selE_snoc pre hxl
    have HPS : Hid (selE S.T pre <+: selE S.T (lexL S.T back (l0, l1, l2) (h0, h1, h2))) := by
      have h1 : pre <+: lexL S.T back (l0, l1, l2) (h0, h1, h2) := (List.prefix_append pre [x]).trans hpre
      exact h1.map _
    have HTL : Hid _ := tell_any S.T[x].b S.T[x] _ A.drew (hlx.bd.sz _ (List.getElem_mem hxl)) ((hlx.bd.below (Below.refl _ A).drew).sk.tow x hxl)
    rw [List.getElem?_eq_getElem hxl] at ha'
    have ha2 : a' = { tmps := (a0.tmps.setIfInBounds 20 (.pointer (some ⟨S.T[x].b, 0, none⟩))).setIfInBounds 14 (.pointer (some ⟨S.T[x].b, 0, none⟩)), defers := [] } := ha'
    obtain ⟨i0, if0⟩ := brow1 hfv
    obtain ⟨m0, mf0⟩ := brow1 hmv
    obtain ⟨s0, sf0⟩ := brow1 hsv
    have HFV : Hid (Blk A fb [.slice P8 t k8] 35) := hfv
    have HFd : Hid (Blk A.drew fb [.slice P8 t k8] 35) := hfv
    have HOd : Hid (A.drew.ownsRow w8.heap.size 39 3 (.slice P8 t k8) t (flatV (cutE (selE S.T pre) skip most))) := hown
    have HOW : Hid (A.ownsRow w8.heap.size 39 3 (.slice P8 t k8) t (flatV (cutE (selE S.T pre) skip most))) := hown
    have HSB : Hid (Blk A sb [.int .i64 (skN skip pre.length)] 3) := hsv
    have HMB : Hid (Blk A mb [.int .i64 most] 3) := hmv
    have HXX : Hid (LBox g bB bK bL bH back (l0, l1, l2) (h0, h1, h2) S N A) := hlx
    have HB : Hid (Below w.heap.size w A) := hb
    have HZA : Hid (w8.heap.size ≤ A.heap.size) := hza
    generalize S.T[x].b = tb at *
    generalize S.T[x].e = E at *
    obtain ⟨em, es, ev⟩ := E
    simp only at HVX HTL
    rw [ha2, ha0]
    simp only [List.setIfInBounds_toArray, List.set_cons_zero, List.set_cons_succ]
    clear ha2 ha0 ha' hfv hown hsv hmv hlx hb hza hpre hmem hlp
    by_cases hfull : (t : Int) = most
    · have HCF : Hid (cutE (selE S.T pre) skip most = CL) := by
        show _ = _
        rw [← HCL.out]; exact cut_full HPS.out (by rw [HT.out]; exact hfull)
      clear s0 sf0
      gi_wp2
      refine ⟨KP.refl _ _ _, ?_⟩
      refine ⟨rfl, ⟨_, HFV.out, ?_⟩, HB.out⟩
      rw [← HCF.out, HT.out]; exact HOW.out
    · have HNF : Hid (¬ ((cutE (selE S.T pre) skip most).length : Int) = most) := by
        show ¬ _
        rw [HT.out]; exact hfull
      by_cases hss : (pre.length : Int) < skip
      · have hgt : (0 : Int) < skN skip pre.length := by unfold skN; rw [if_pos (by omega)]; omega
        have hsub : IntKind.i64.wrap (skN skip pre.length - 1) = skN skip (pre.length + 1) := by
          unfold skN
          rw [if_pos (by omega), if_pos (by omega), IntKind.wrap_i64] <;> omega
        have hsub2 : skN skip pre.length - 1 = skN skip (pre.length + 1) := by
          unfold skN
          rw [if_pos (by omega), if_pos (by omega)]; omega
        have HCS : Hid (cutE (selE S.T (pre ++ [x])) skip most = cutE (selE S.T pre) skip most) := by
          show _ = _
          rw [HVX.out]
          exact cut_skip (by rw [HEL.out]; exact hss)
        clear hss
        generalize hq1 : skN skip pre.length = Q1 at *
        generalize hq2 : skN skip (pre.length + 1) = Q2 at *
        have HQ2 : Hid (skN skip (pre.length + 1) = Q2) := hq2
        have HSB1 : Hid (Blk A sb [.int .i64 Q1] 3) := HSB.out
        clear hq1 hq2 hsub2
        gi_wp2
        have hon := Only.set (Only.refl A sb) 0 (.int .i64 Q2)
        refine ⟨KP.of_KA (KA.setCell _ _ _ HSZ.out.2), ⟨_, HFV.out.to (hon.other fb HSM.out.2.1), ?_⟩, ?_, HMB.out.to (hon.other mb HSM.out.2.2), HXX.out.to (fun q hq => hon.other q (fun e => HNS.out (by rw [← e]; exact hq))), HB.out.setCell (p := ⟨sb, 0, none⟩) HSM.out.1 _, by rw [hon.size]; exact HZA.out⟩
        · rw [HCS.out, HT.out]
          exact own_keep HOW.out (fun q hq _ => hon.other q (by have := HSZ.out; omega))
        · rw [List.length_append]
          have e1 : pre.length + [x].length = pre.length + 1 := rfl
          rw [e1, HQ2.out]
          exact HSB1.out.set 0 (.int .i64 Q2)
      · have hgt : ¬ (0 : Int) < skN skip pre.length := by unfold skN; split <;> omega
        have HSK : Hid (skip ≤ (pre.length : Int)) := by show _ ≤ _; omega
        have HCM : Hid (cutE (selE S.T pre ++ [(em, es, ev)]) skip most = cutE (selE S.T pre) skip most ++ [(em, es, ev)]) := cut_more (by rw [HEL.out]; exact HSK.out) HNF.out
        have hiE := HIE.out.1
        have hzE0 := HIE.out.2.1
        have hzE := HIE.out.2.2.1
        have hzE2 := HIE.out.2.2.2
        clear hss
        gi_wp2_with fail
        clear m0 mf0 s0 sf0 hgt hfull
        refine wpIn_region_any (by kernel_rfl) ?_
        change wpAnyIn _ _ _ _ _ _ _ _ _ A.drew
        refine wpAnyIn_ready (rs := [0, 1]) (by kernel_rfl) (by simp) ?_
        refine AllReadyIn.cons rfl (fun K hK => ?_) (AllReadyIn.cons rfl (fun K hK => ?_) AllReadyIn.nil)
        · go_simp
          refine hK _ _ ?_; clear hK K
          refine wpAnyIn_ready (rs := [1]) (by kernel_rfl) (by simp) ?_
          refine AllReadyIn.cons rfl (fun K hK => ?_) AllReadyIn.nil
          go_simp
          refine hK _ _ ?_; clear hK K
          refine wpAnyIn_ready (rs := [2]) (by kernel_rfl) (by simp) ?_
          refine AllReadyIn.cons rfl (fun K hK => ?_) AllReadyIn.nil
          go_simp
          gi_wp2_with ((refine ⟨trivial, ?_⟩; gi_at_call 35; refine (CallsIn.inRound ll (callsIn_wide.2 HTL.out)).mono ?_; rintro e w5 ⟨rfl, hb5⟩; have hF5 := cells_below HFd.out hb5; have HB5' : Hid (Below A.drew.heap.size A.drew w5) := hb5; have HF5a : Hid (Blk (w5.alloc (.cells #[.string em, .int .i64 es, vl ev] 39)) fb [.slice P8 t k8] 35) := cells_below hF5 ((Below.refl _ w5).alloc (Nat.le_refl _) _); have HO5 : Hid ((w5.alloc (.cells #[.string em, .int .i64 es, vl ev] 39)).ownsRow w8.heap.size 39 3 (.slice P8 t k8) t (flatV (cutE (selE S.T pre) skip most))) := own_keep (own_keep HOd.out (fun q _ hq => hb5.block q hq)) (fun q _ hq => ((Below.refl _ w5).alloc (Nat.le_refl _) _).block q hq); obtain ⟨i0, if0⟩ := brow1 hF5; obtain ⟨i5, if5⟩ := brow1 HF5a.out; clear hb5 hF5))
          refine wpAnyIn_ready (rs := [3]) (by kernel_rfl) (by simp) ?_
          refine AllReadyIn.cons rfl (fun K hK => ?_) AllReadyIn.nil
          go_simp
          refine hK _ _ ?_; clear hK K
          refine wpAnyIn_ready (rs := [4]) (by kernel_rfl) (by simp) ?_
          refine AllReadyIn.cons rfl (fun K hK => ?_) AllReadyIn.nil
          rw [if_pos (by rfl)]
          refine opIn_append_own _ _ _ 35 rfl w8.heap.size 39 iE (.agg #[.string ⟨#[]⟩, .int .i64 0, vz]) 3 32 Tryd.underlying35 hiE hzE0 hzE hzE2 rfl (by decide) (.slice P8 t k8) t (flatV (cutE (selE S.T pre) skip most)) rfl HO5.out ⟨w5.heap.size, 0, none⟩ 1 1 [.string em, .int .i64 es, vl ev] rfl rfl (cell_three_new _ _ _ _ _) (by simp [Value.oneCell']) (by have := HTB.out; unfold maxLen; omega) (by have := HTB.out; omega) (by have h1 := HZA.out; have h2 := HB5'.out.size; have h3 : A.drew.heap.size = A.heap.size := rfl; simp; omega) ?_
          intro v7 w7 hown7 hgrow7
          refine hK _ _ ?_; clear hK K
          obtain ⟨P9, k9, hkf⟩ := own_form hown7
          subst hkf
          have hF7 : Blk w7 fb [.slice P8 t k8] 35 := grown_row HF5a.out hgrow7 (own_ge HO5.out) HFZ.out.2
          obtain ⟨i7, if7⟩ := brow1 hF7
          have HGR : Hid _ := hgrow7
          have HF7 : Hid (Blk w7 fb [.slice P8 t k8] 35) := hF7
          have HOW7 : Hid (w7.ownsRow w8.heap.size 39 3 (.slice P9 (t + 1) k9) (t + 1) (flatV (cutE (selE S.T pre) skip most) ++ [.string em, .int .i64 es, vl ev])) := hown7
          clear hgrow7 hown7 hF7
          try clear i0 if0
          try clear i5 if5
          refine wpAnyIn_ready (rs := [5]) (by kernel_rfl) (by simp) ?_
          refine AllReadyIn.cons rfl (fun K hK => ?_) AllReadyIn.nil
          go_simp
          refine hK _ _ ?_; clear hK K
          refine wpAnyIn_done (by kernel_rfl) ?_ _
          gi_wp2
          have hz := HFZ.out
          have hbwx : Below A.heap.size A w5 := (below_dn (Below.refl _ A) 1).trans HB5'.out
          have hbwa : Below A.heap.size A (w5.alloc (.cells #[.string em, .int .i64 es, vl ev] 39)) := hbwx.alloc hbwx.size _
          have hge := own_ge HO5.out
          have hon := Only.set (Only.refl w7 fb) 0 (.slice P9 (t + 1) k9)
          refine ⟨((KP.of_below hbwa).trans (KP.grownE HGR.out (own_cells HO5.out))).trans (KP.of_KA (KA.setCell _ _ _ HFZ.out.2)), ⟨.slice P9 (t + 1) k9, ?_, ?_⟩, ?_, ?_, ?_, ?_, by rw [hon.size]; exact Nat.le_trans HZA.out (Nat.le_trans hbwa.size HGR.out.size)⟩
          · exact HF7.out.set 0 (.slice P9 (t + 1) k9)
          · rw [HVX.out, HCM.out, List.length_append, HT.out]
            refine own_keep ?_ (fun q hq _ => hon.other q (by omega))
            rw [flatV_snoc]; exact HOW7.out
          · rw [List.length_append]
            have e1 : skN skip (pre.length + [x].length) = skN skip pre.length := by
              have h1 := HSK.out
              unfold skN at h1 ⊢
              simp only [List.length_cons, List.length_nil]
              split
              · omega
              · rfl
            rw [e1]
            exact (hon.other sb HSZ.out.1).trans (grown_row (cells_below HSB.out hbwa) HGR.out hge HSZ.out.2)
          · exact (hon.other mb HMZ.out.1).trans (grown_row (cells_below HMB.out hbwa) HGR.out hge HMZ.out.2)
          · refine (HXX.out.on hbwa).to (fun q hq => ?_)
            rw [hon.other q (fun e => HNO.out (by rw [← e]; exact hq))]
            exact HGR.out.block q ((HXX.out.on hbwa).lts q hq) (fun e => by have := hge q e.symm; have := HLB.out q hq; omega)
          · exact ((bel_to HB.out hbwa (Nat.le_refl _)).grown HGR.out (Nat.le_trans HB.out.size hbwa.size) (fun k hk => by have := hge k hk; have := HB8.out.size; omega)).setCell (p := ⟨fb, 0, none⟩) HFZ.out.1 _
        · go_simp
          refine hK _ _ ?_; clear hK K
          refine wpAnyIn_ready (rs := [0, 2]) (by kernel_rfl) (by simp) ?_
          refine AllReadyIn.cons rfl (fun K hK => ?_) (AllReadyIn.cons rfl (fun K hK => ?_) AllReadyIn.nil)
          · go_simp
            refine hK _ _ ?_; clear hK K
            refine wpAnyIn_ready (rs := [2]) (by kernel_rfl) (by simp) ?_
            refine AllReadyIn.cons rfl (fun K hK => ?_) AllReadyIn.nil
            go_simp
            gi_wp2_with ((refine ⟨trivial, ?_⟩; gi_at_call 35; refine (CallsIn.inRound ll (callsIn_wide.2 HTL.out)).mono ?_; rintro e w5 ⟨rfl, hb5⟩; have hF5 := cells_below HFd.out hb5; have HB5' : Hid (Below A.drew.heap.size A.drew w5) := hb5; have HF5a : Hid (Blk (w5.alloc (.cells #[.string em, .int .i64 es, vl ev] 39)) fb [.slice P8 t k8] 35) := cells_below hF5 ((Below.refl _ w5).alloc (Nat.le_refl _) _); have HO5 : Hid ((w5.alloc (.cells #[.string em, .int .i64 es, vl ev] 39)).ownsRow w8.heap.size 39 3 (.slice P8 t k8) t (flatV (cutE (selE S.T pre) skip most))) := own_keep (own_keep HOd.out (fun q _ hq => hb5.block q hq)) (fun q _ hq => ((Below.refl _ w5).alloc (Nat.le_refl _) _).block q hq); obtain ⟨i0, if0⟩ := brow1 hF5; obtain ⟨i5, if5⟩ := brow1 HF5a.out; clear hb5 hF5))
            refine wpAnyIn_ready (rs := [3]) (by kernel_rfl) (by simp) ?_
            refine AllReadyIn.cons rfl (fun K hK => ?_) AllReadyIn.nil
            go_simp
            refine hK _ _ ?_; clear hK K
            refine wpAnyIn_ready (rs := [4]) (by kernel_rfl) (by simp) ?_
            refine AllReadyIn.cons rfl (fun K hK => ?_) AllReadyIn.nil
            rw [if_pos (by rfl)]
            refine opIn_append_own _ _ _ 35 rfl w8.heap.size 39 iE (.agg #[.string ⟨#[]⟩, .int .i64 0, vz]) 3 32 Tryd.underlying35 hiE hzE0 hzE hzE2 rfl (by decide) (.slice P8 t k8) t (flatV (cutE (selE S.T pre) skip most)) rfl HO5.out ⟨w5.heap.size, 0, none⟩ 1 1 [.string em, .int .i64 es, vl ev] rfl rfl (cell_three_new _ _ _ _ _) (by simp [Value.oneCell']) (by have := HTB.out; unfold maxLen; omega) (by have := HTB.out; omega) (by have h1 := HZA.out; have h2 := HB5'.out.size; have h3 : A.drew.heap.size = A.heap.size := rfl; simp; omega) ?_
            intro v7 w7 hown7 hgrow7
            refine hK _ _ ?_; clear hK K
            obtain ⟨P9, k9, hkf⟩ := own_form hown7
            subst hkf
            have hF7 : Blk w7 fb [.slice P8 t k8] 35 := grown_row HF5a.out hgrow7 (own_ge HO5.out) HFZ.out.2
            obtain ⟨i7, if7⟩ := brow1 hF7
            have HGR : Hid _ := hgrow7
            have HF7 : Hid (Blk w7 fb [.slice P8 t k8] 35) := hF7
            have HOW7 : Hid (w7.ownsRow w8.heap.size 39 3 (.slice P9 (t + 1) k9) (t + 1) (flatV (cutE (selE S.T pre) skip most) ++ [.string em, .int .i64 es, vl ev])) := hown7
            clear hgrow7 hown7 hF7
            try clear i0 if0
            try clear i5 if5
            refine wpAnyIn_ready (rs := [5]) (by kernel_rfl) (by simp) ?_
            refine AllReadyIn.cons rfl (fun K hK => ?_) AllReadyIn.nil
            go_simp
            refine hK _ _ ?_; clear hK K
            refine wpAnyIn_done (by kernel_rfl) ?_ _
            gi_wp2
            have hz := HFZ.out
            have hbwx : Below A.heap.size A w5 := (below_dn (Below.refl _ A) 1).trans HB5'.out
            have hbwa : Below A.heap.size A (w5.alloc (.cells #[.string em, .int .i64 es, vl ev] 39)) := hbwx.alloc hbwx.size _
            have hge := own_ge HO5.out
            have hon := Only.set (Only.refl w7 fb) 0 (.slice P9 (t + 1) k9)
            refine ⟨((KP.of_below hbwa).trans (KP.grownE HGR.out (own_cells HO5.out))).trans (KP.of_KA (KA.setCell _ _ _ HFZ.out.2)), ⟨.slice P9 (t + 1) k9, ?_, ?_⟩, ?_, ?_, ?_, ?_, by rw [hon.size]; exact Nat.le_trans HZA.out (Nat.le_trans hbwa.size HGR.out.size)⟩
            · exact HF7.out.set 0 (.slice P9 (t + 1) k9)
            · rw [HVX.out, HCM.out, List.length_append, HT.out]
              refine own_keep ?_ (fun q hq _ => hon.other q (by omega))
              rw [flatV_snoc]; exact HOW7.out
            · rw [List.length_append]
              have e1 : skN skip (pre.length + [x].length) = skN skip pre.length := by
                have h1 := HSK.out
                unfold skN at h1 ⊢
                simp only [List.length_cons, List.length_nil]
                split
                · omega
                · rfl
              rw [e1]
              exact (hon.other sb HSZ.out.1).trans (grown_row (cells_below HSB.out hbwa) HGR.out hge HSZ.out.2)
            · exact (hon.other mb HMZ.out.1).trans (grown_row (cells_below HMB.out hbwa) HGR.out hge HMZ.out.2)
            · refine (HXX.out.on hbwa).to (fun q hq => ?_)
              rw [hon.other q (fun e => HNO.out (by rw [← e]; exact hq))]
              exact HGR.out.block q ((HXX.out.on hbwa).lts q hq) (fun e => by have := hge q e.symm; have := HLB.out q hq; omega)
            · exact ((bel_to HB.out hbwa (Nat.le_refl _)).grown HGR.out (Nat.le_trans HB.out.size hbwa.size) (fun k hk => by have := hge k hk; have := HB8.out.size; omega)).setCell (p := ⟨fb, 0, none⟩) HFZ.out.1 _
          · go_simp
            gi_wp2_with ((refine ⟨trivial, ?_⟩; gi_at_call 35; refine (CallsIn.inRound ll (callsIn_wide.2 HTL.out)).mono ?_; rintro e w5 ⟨rfl, hb5⟩; have hF5 := cells_below HFd.out hb5; have HB5' : Hid (Below A.drew.heap.size A.drew w5) := hb5; have HF5a : Hid (Blk (w5.alloc (.cells #[.string em, .int .i64 es, vl ev] 39)) fb [.slice P8 t k8] 35) := cells_below hF5 ((Below.refl _ w5).alloc (Nat.le_refl _) _); have HO5 : Hid ((w5.alloc (.cells #[.string em, .int .i64 es, vl ev] 39)).ownsRow w8.heap.size 39 3 (.slice P8 t k8) t (flatV (cutE (selE S.T pre) skip most))) := own_keep (own_keep HOd.out (fun q _ hq => hb5.block q hq)) (fun q _ hq => ((Below.refl _ w5).alloc (Nat.le_refl _) _).block q hq); obtain ⟨i0, if0⟩ := brow1 hF5; obtain ⟨i5, if5⟩ := brow1 HF5a.out; clear hb5 hF5))
            refine wpAnyIn_ready (rs := [0, 3]) (by kernel_rfl) (by simp) ?_
            refine AllReadyIn.cons rfl (fun K hK => ?_) (AllReadyIn.cons rfl (fun K hK => ?_) AllReadyIn.nil)
            · go_simp
              refine hK _ _ ?_; clear hK K
              refine wpAnyIn_ready (rs := [3]) (by kernel_rfl) (by simp) ?_
              refine AllReadyIn.cons rfl (fun K hK => ?_) AllReadyIn.nil
              go_simp
              refine hK _ _ ?_; clear hK K
              refine wpAnyIn_ready (rs := [4]) (by kernel_rfl) (by simp) ?_
              refine AllReadyIn.cons rfl (fun K hK => ?_) AllReadyIn.nil
              rw [if_pos (by rfl)]
              refine opIn_append_own _ _ _ 35 rfl w8.heap.size 39 iE (.agg #[.string ⟨#[]⟩, .int .i64 0, vz]) 3 32 Tryd.underlying35 hiE hzE0 hzE hzE2 rfl (by decide) (.slice P8 t k8) t (flatV (cutE (selE S.T pre) skip most)) rfl HO5.out ⟨w5.heap.size, 0, none⟩ 1 1 [.string em, .int .i64 es, vl ev] rfl rfl (cell_three_new _ _ _ _ _) (by simp [Value.oneCell']) (by have := HTB.out; unfold maxLen; omega) (by have := HTB.out; omega) (by have h1 := HZA.out; have h2 := HB5'.out.size; have h3 : A.drew.heap.size = A.heap.size := rfl; simp; omega) ?_
              intro v7 w7 hown7 hgrow7
              refine hK _ _ ?_; clear hK K
              obtain ⟨P9, k9, hkf⟩ := own_form hown7
              subst hkf
              have hF7 : Blk w7 fb [.slice P8 t k8] 35 := grown_row HF5a.out hgrow7 (own_ge HO5.out) HFZ.out.2
              obtain ⟨i7, if7⟩ := brow1 hF7
              have HGR : Hid _ := hgrow7
              have HF7 : Hid (Blk w7 fb [.slice P8 t k8] 35) := hF7
              have HOW7 : Hid (w7.ownsRow w8.heap.size 39 3 (.slice P9 (t + 1) k9) (t + 1) (flatV (cutE (selE S.T pre) skip most) ++ [.string em, .int .i64 es, vl ev])) := hown7
              clear hgrow7 hown7 hF7
              try clear i0 if0
              try clear i5 if5
              refine wpAnyIn_ready (rs := [5]) (by kernel_rfl) (by simp) ?_
              refine AllReadyIn.cons rfl (fun K hK => ?_) AllReadyIn.nil
              go_simp
              refine hK _ _ ?_; clear hK K
              refine wpAnyIn_done (by kernel_rfl) ?_ _
              gi_wp2
              have hz := HFZ.out
              have hbwx : Below A.heap.size A w5 := (below_dn (Below.refl _ A) 1).trans HB5'.out
              have hbwa : Below A.heap.size A (w5.alloc (.cells #[.string em, .int .i64 es, vl ev] 39)) := hbwx.alloc hbwx.size _
              have hge := own_ge HO5.out
              have hon := Only.set (Only.refl w7 fb) 0 (.slice P9 (t + 1) k9)
              refine ⟨((KP.of_below hbwa).trans (KP.grownE HGR.out (own_cells HO5.out))).trans (KP.of_KA (KA.setCell _ _ _ HFZ.out.2)), ⟨.slice P9 (t + 1) k9, ?_, ?_⟩, ?_, ?_, ?_, ?_, by rw [hon.size]; exact Nat.le_trans HZA.out (Nat.le_trans hbwa.size HGR.out.size)⟩
              · exact HF7.out.set 0 (.slice P9 (t + 1) k9)
              · rw [HVX.out, HCM.out, List.length_append, HT.out]
                refine own_keep ?_ (fun q hq _ => hon.other q (by omega))
                rw [flatV_snoc]; exact HOW7.out
              · rw [List.length_append]
                have e1 : skN skip (pre.length + [x].length) = skN skip pre.length := by
                  have h1 := HSK.out
                  unfold skN at h1 ⊢
                  simp only [List.length_cons, List.length_nil]
                  split
                  · omega
                  · rfl
                rw [e1]
                exact (hon.other sb HSZ.out.1).trans (grown_row (cells_below HSB.out hbwa) HGR.out hge HSZ.out.2)
              · exact (hon.other mb HMZ.out.1).trans (grown_row (cells_below HMB.out hbwa) HGR.out hge HMZ.out.2)
              · refine (HXX.out.on hbwa).to (fun q hq => ?_)
                rw [hon.other q (fun e => HNO.out (by rw [← e]; exact hq))]
                exact HGR.out.block q ((HXX.out.on hbwa).lts q hq) (fun e => by have := hge q e.symm; have := HLB.out q hq; omega)
              · exact ((bel_to HB.out hbwa (Nat.le_refl _)).grown HGR.out (Nat.le_trans HB.out.size hbwa.size) (fun k hk => by have := hge k hk; have := HB8.out.size; omega)).setCell (p := ⟨fb, 0, none⟩) HFZ.out.1 _
            · go_simp
              refine hK _ _ ?_; clear hK K
              refine wpAnyIn_ready (rs := [0]) (by kernel_rfl) (by simp) ?_
              refine AllReadyIn.cons rfl (fun K hK => ?_) AllReadyIn.nil
              go_simp
              refine hK _ _ ?_; clear hK K
              refine wpAnyIn_ready (rs := [4]) (by kernel_rfl) (by simp) ?_
              refine AllReadyIn.cons rfl (fun K hK => ?_) AllReadyIn.nil
              rw [if_pos (by rfl)]
              refine opIn_append_own _ _ _ 35 rfl w8.heap.size 39 iE (.agg #[.string ⟨#[]⟩, .int .i64 0, vz]) 3 32 Tryd.underlying35 hiE hzE0 hzE hzE2 rfl (by decide) (.slice P8 t k8) t (flatV (cutE (selE S.T pre) skip most)) rfl HO5.out ⟨w5.heap.size, 0, none⟩ 1 1 [.string em, .int .i64 es, vl ev] rfl rfl (cell_three_new _ _ _ _ _) (by simp [Value.oneCell']) (by have := HTB.out; unfold maxLen; omega) (by have := HTB.out; omega) (by have h1 := HZA.out; have h2 := HB5'.out.size; have h3 : A.drew.heap.size = A.heap.size := rfl; simp; omega) ?_
              intro v7 w7 hown7 hgrow7
              refine hK _ _ ?_; clear hK K
              obtain ⟨P9, k9, hkf⟩ := own_form hown7
              subst hkf
              have hF7 : Blk w7 fb [.slice P8 t k8] 35 := grown_row HF5a.out hgrow7 (own_ge HO5.out) HFZ.out.2
              obtain ⟨i7, if7⟩ := brow1 hF7
              have HGR : Hid _ := hgrow7
              have HF7 : Hid (Blk w7 fb [.slice P8 t k8] 35) := hF7
              have HOW7 : Hid (w7.ownsRow w8.heap.size 39 3 (.slice P9 (t + 1) k9) (t + 1) (flatV (cutE (selE S.T pre) skip most) ++ [.string em, .int .i64 es, vl ev])) := hown7
              clear hgrow7 hown7 hF7
              try clear i0 if0
              try clear i5 if5
              refine wpAnyIn_ready (rs := [5]) (by kernel_rfl) (by simp) ?_
              refine AllReadyIn.cons rfl (fun K hK => ?_) AllReadyIn.nil
              go_simp
              refine hK _ _ ?_; clear hK K
              refine wpAnyIn_done (by kernel_rfl) ?_ _
              gi_wp2
              have hz := HFZ.out
              have hbwx : Below A.heap.size A w5 := (below_dn (Below.refl _ A) 1).trans HB5'.out
              have hbwa : Below A.heap.size A (w5.alloc (.cells #[.string em, .int .i64 es, vl ev] 39)) := hbwx.alloc hbwx.size _
              have hge := own_ge HO5.out
              have hon := Only.set (Only.refl w7 fb) 0 (.slice P9 (t + 1) k9)
              refine ⟨((KP.of_below hbwa).trans (KP.grownE HGR.out (own_cells HO5.out))).trans (KP.of_KA (KA.setCell _ _ _ HFZ.out.2)), ⟨.slice P9 (t + 1) k9, ?_, ?_⟩, ?_, ?_, ?_, ?_, by rw [hon.size]; exact Nat.le_trans HZA.out (Nat.le_trans hbwa.size HGR.out.size)⟩
              · exact HF7.out.set 0 (.slice P9 (t + 1) k9)
              · rw [HVX.out, HCM.out, List.length_append, HT.out]
                refine own_keep ?_ (fun q hq _ => hon.other q (by omega))
                rw [flatV_snoc]; exact HOW7.out
              · rw [List.length_append]
                have e1 : skN skip (pre.length + [x].length) = skN skip pre.length := by
                  have h1 := HSK.out
                  unfold skN at h1 ⊢
                  simp only [List.length_cons, List.length_nil]
                  split
                  · omega
                  · rfl
                rw [e1]
                exact (hon.other sb HSZ.out.1).trans (grown_row (cells_below HSB.out hbwa) HGR.out hge HSZ.out.2)
              · exact (hon.other mb HMZ.out.1).trans (grown_row (cells_below HMB.out hbwa) HGR.out hge HMZ.out.2)
              · refine (HXX.out.on hbwa).to (fun q hq => ?_)
                rw [hon.other q (fun e => HNO.out (by rw [← e]; exact hq))]
                exact HGR.out.block q ((HXX.out.on hbwa).lts q hq) (fun e => by have := hge q e.symm; have := HLB.out q hq; omega)
              · exact ((bel_to HB.out hbwa (Nat.le_refl _)).grown HGR.out (Nat.le_trans HB.out.size hbwa.size) (fun k hk => by have := hge k hk; have := HB8.out.size; omega)).setCell (p := ⟨fb, 0, none⟩) HFZ.out.1 _
  case done =>
    rintro D A hD ⟨⟨v, hfv, hown⟩, hsv, hmv, hlx, hb, hza⟩ hDr
    rw [HCL.out] at hown
    rw [ha0]
    obtain ⟨P8, k8, hkf⟩ := own_form hown
    subst hkf
    obtain ⟨i0, if0⟩ := brow1 hfv
    have HDR : Hid _ := hDr
    have HB : Hid (Below w.heap.size w A) := hb
    have HOW : Hid (A.ownsRow w8.heap.size 39 3 (.slice P8 CL.length k8) CL.length (flatV CL)) := hown
    clear ha0 hsv hmv hlx hza hb hDr hfv hown
    generalize CL.length = LL at *
    refine wpB_of (n := 10) ?_
    gi_wp2
    refine ⟨by simp, .inl ⟨_, _, rfl, run_takeDeferred HDR.out, ?_⟩⟩
    refine ⟨.slice P8 LL k8, ?res, .slice P8 LL k8, rfl, ?own, ?bel⟩
    case bel => exact put_below HB.out (by have := HB8.out.size; omega)
    case own =>
      have hnd : ∀ q, (Value.slice P8 LL k8).ownBlock = some q → q ≠ D := fun q hq e => by
        obtain ⟨cur, hc⟩ := own_cells HOW.out q hq
        subst e
        have := HDR.out
        rw [hc] at this; cases this
      refine ⟨HOW.out.1, ?_⟩
      rcases HOW.out.2 with q | ⟨a1, a2, a3, a4, a5, a6, a7⟩
      · exact Or.inl q
      · refine Or.inr ⟨a1, a2, a3, a4, by have := HB8.out.size; omega, put_keep a6 (hnd a1 (by rw [a4]; rfl)), a7⟩
    case res => simp [results, Tryd.results51, go_sem]
  case stop =>
    rintro D cd pre A hD hpre ⟨rfl, ⟨v, hfv, hown⟩, hb⟩ hDr
    rw [ha0]
    obtain ⟨P8, k8, hkf⟩ := own_form hown
    subst hkf
    obtain ⟨i0, if0⟩ := brow1 hfv
    have HDR : Hid _ := hDr
    have HB : Hid (Below w.heap.size w A) := hb
    have HOW : Hid (A.ownsRow w8.heap.size 39 3 (.slice P8 CL.length k8) CL.length (flatV CL)) := hown
    clear ha0 hb hDr hfv hown
    generalize CL.length = LL at *
    refine wpB_of (n := 10) ?_
    gi_wp2
    refine wpB_of (n := 10) ?_
    gi_wp2
    refine ⟨by simp, .inl ⟨_, _, rfl, run_takeDeferred HDR.out, ?_⟩⟩
    refine ⟨.slice P8 LL k8, ?res, .slice P8 LL k8, rfl, ?own, ?bel⟩
    case bel => exact put_below HB.out (by have := HB8.out.size; omega)
    case own =>
      have hnd : ∀ q, (Value.slice P8 LL k8).ownBlock = some q → q ≠ D := fun q hq e => by
        obtain ⟨cur, hc⟩ := own_cells HOW.out q hq
        subst e
        have := HDR.out
        rw [hc] at this; cases this
      refine ⟨HOW.out.1, ?_⟩
      rcases HOW.out.2 with q | ⟨a1, a2, a3, a4, a5, a6, a7⟩
      · exact Or.inl q
      · refine Or.inr ⟨a1, a2, a3, a4, by have := HB8.out.size; omega, put_keep a6 (hnd a1 (by rw [a4]; rfl)), a7⟩
    case res => simp [results, Tryd.results51, go_sem]
end Go.Proofs.YtgbplghokciimaaDoor.I
