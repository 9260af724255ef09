import Derived.Test.YtfkcpilkhdbpoaaGreatDoorAJ
import Derived.Test.YtfkcpilkhdbpoaaGreatDoorS6BegM
import Derived.OwnWalkIn
import Derived.Maps.AppendAt
namespace Go.Proofs.YtfkcpilkhdbpoaaGreatDoor.S6
open Go.RowKit
set_option linter.unusedVariables false
attribute [local go_sem] Oper.semAt_some
def encV (x : LM.Ent) : Value := .string (strB (LM.val x.it))
theorem rown_form {w : World} {base g k c : Nat} {xs : List Value} (h : w.ownsRow base 9 1 (.slice (some ⟨g, 0, none⟩) k c) k xs) : ∃ cur, w.heap[g]? = some (.cells cur 9) ∧ cur.size = c ∧ cur.toList.take k = xs := by
  obtain ⟨_, ⟨h0, _⟩ | ⟨g', cap, cur, hv, hb, hg, h1, h2, h3, h4⟩⟩ := h
  · cases h0
  · injection hv with e1 e2 e3
    injection e1 with e1
    injection e1 with e1
    subst e1; subst e3
    exact ⟨cur, hg, by omega, by rwa [Nat.mul_one] at h4⟩
theorem rown_mk {w : World} {base g k c : Nat} {xs : List Value} {cur : Array Value} (hb : base ≤ g) (hk : k ≤ c) (hc : c ≤ maxLen) (hg : w.heap[g]? = some (.cells cur 9)) (hs : cur.size = c) (ht : cur.toList.take k = xs) : w.ownsRow base 9 1 (.slice (some ⟨g, 0, none⟩) k c) k xs := by
  refine ⟨?_, Or.inr ⟨g, c, cur, rfl, hb, hg, hk, hc, by omega, by rwa [Nat.mul_one]⟩⟩
  rw [← ht, List.length_take, Array.length_toList]; omega
theorem KA.grown {B g : Nat} {W W' : World} (h : W.grownBy W' (some g)) (hg : g < B) : KA B W W' :=
  ⟨h.size, fun k o hk e => (h.block k (row_lt e) (fun x => by injection x with x; omega)).trans e⟩
theorem opIn_append_fits {F : Fence} {n : Nat} {P : Program} (w : World) {o : Oper} {a : Act} {K : Act → World → Prop} {Q : Exit → Act → World → Prop}
    (s x : Operand) (t : TypeId) (hop : o.op = Op.call { callee := Callee.builtin Builtin.append, args := #[s, x], argTypes := #[t, t] })
    (base : Nat) (e : TypeId) (i : TypeInfo) (size : Nat) (h1 : P.underlying t = some (.slice e)) (h2 : P.info? e = some i) (h4 : i.size = size)
    (g k cap : Nat) (xs : List Value) (hs : a.eval s = .slice (some ⟨g, 0, none⟩) k cap) (hown : w.ownsRow base e size (.slice (some ⟨g, 0, none⟩) k cap) k xs) (ad : Addr) (m c : Nat) (news : List Value) (hx : a.eval x = .slice (some ad) m c) (hn : news.length = m * size)
    (hc : ∀ j u, news[j]? = some u → w.cell? (ad.add j) = some u) (h1c : ∀ u ∈ news, u.oneCell' = true) (b1 : k + m ≤ cap)
    (hK : ∀ w', w'.ownsRow base e size (.slice (some ⟨g, 0, none⟩) (k + m) cap) (k + m) (xs ++ news) → w.grownBy w' (some g) → K (a.put o.dst (.slice (some ⟨g, 0, none⟩) (k + m) cap)) w') :
    o.wpIn F n P a w K Q := by
  obtain ⟨w', hrun, r1, r2⟩ := run_append_fits (P := P) w base t o.type e i size h1 h2 h4 g k cap xs hown ad m c news hn hc h1c b1
  unfold Oper.wpIn
  refine ⟨?_, ?_⟩
  · simp [Oper.about, hop, resolve, Target.leads, Sem.run_pure]
  · rw [Oper.semAt_plain F _ _ (by rw [hop]; intro c hc'; cases hc')]
    simp [execOp, hop, resolve, invoke, builtin, hs, hx, hrun, Oper.uponIn]
    exact hK w' r1 r2
theorem ents_vals (l : List LM.Item) : (LM.entsFrom 0 0 l).map encV = l.map (fun it => Value.string (strB (LM.val it))) := by
  have h := LM.ents_items l 0 0
  have e : (LM.entsFrom 0 0 l).map encV = ((LM.entsFrom 0 0 l).map LM.Ent.it).map (fun it => Value.string (strB (LM.val it))) := by rw [List.map_map]; rfl
  rw [e, h]
set_option maxHeartbeats 2000000 in
set_option maxRecDepth 100000 in
theorem Walk_f (p : ByteArray) (l : List LM.Item) (hpk : LM.Pk p.data.toList l) (w : World) (hw : Lay w) :
    Calls Tryz.prog 305 #[.string p, .bool false] w fun e w' => (∃ g, e = .returned (.tuple #[.slice (some ⟨g, 0, none⟩) l.length l.length, .int .i64 0]) ∧ w'.ownsRow w.heap.size 9 1 (.slice (some ⟨g, 0, none⟩) l.length l.length) l.length (l.map (fun it => Value.string (strB (LM.val it))))) ∧ Below w.heap.size w w' := by
  have HW : Hid (Lay w) := hw
  have HPK : Hid _ := hpk
  have hl := hpk.wf
  have hlen := hpk.len
  have hs : LM.bsum l ≤ 1073741824 := by have := hpk.size; rw [hpk.eq, LM.build_len] at this; omega
  have hge := LM.bsum_ge l
  have HRH : Hid (∀ W, Lay W → Calls Tryz.prog 257 #[.string p] W (rdP p W)) := fun W hW => read_any p (by have := hpk.size; rw [list_len] at this; omega) W hW
  obtain ⟨i9, hi9, hz0, hz1, hz2⟩ := info_parts info9
  have HI9 : Hid (Tryz.prog.info? 9 = some i9 ∧ i9.zero = some (.string ⟨#[]⟩) ∧ i9.size = 1 ∧ i9.bytes = 16) := ⟨hi9, hz0, hz1, hz2⟩
  clear hi9 hz0 hz1 hz2
  have HVL : Hid (((LM.entsFrom 0 0 l)).map encV = l.map (fun it => Value.string (strB (LM.val it)))) := by
    show _ = _; exact ents_vals l
  have HLL : Hid (((LM.entsFrom 0 0 l)).length = l.length) := by show _ = _; rw [LM.ents_len]
  clear hw hpk
  refine calls_of_wpB (n := 10) Tryz.func305 rfl ?_
  simp only [Tryz.ntmps305, List.size_toArray, List.length_cons, List.length_nil, Nat.reduceAdd, Nat.reduceSub, Array.replicate_succ, Array.replicate_zero, List.push_toArray, List.append_toArray, List.nil_append, List.cons_append]
  refine wpB_then (n := 10) ?_
  gi_wp2
  refine wpB_then (n := 10) ?_
  gi_wp2_with fail
  refine ⟨trivial, (callsIn_wide.2 (HRH.out _ HW.out)).mono ?_⟩
  rintro e w1 ⟨⟨l', hl', rfl⟩ | ⟨hno, rfl⟩, hb1⟩
  case inr => exact absurd HPK.out (hno l)
  have he := HPK.out.uniq hl'
  subst he
  have HB1 : Hid (Below w.heap.size w w1) := hb1
  have hBs : (strB (LM.bodyOf l)).size = LM.bsum l := by rw [strB_size, LM.bodyOf_len]
  have HBL : Hid ((strB (LM.bodyOf l)).data.toList = LM.bodyOf l) := strB_list _
  clear hb1 hl'
  generalize strB (LM.bodyOf l) = Bo at *
  gi_wp2
  obtain ⟨kp, hkp⟩ : ∃ kp, w1.heap.size = kp := ⟨_, rfl⟩
  obtain ⟨W1, hW1⟩ : ∃ W1, W1 = w1.alloc (.cells #[.string Bo, .int .i64 (l.length : Int)] 349) := ⟨_, rfl⟩
  rw [← hW1, hkp]
  have HB2 : Hid (Below w.heap.size w W1) := by rw [hW1]; exact HB1.out.alloc HB1.out.size _
  have HP1 : Hid (W1.heap[kp]? = some (.cells #[.string Bo, .int .i64 (l.length : Int)] 349)) := by rw [hW1, ← hkp]; exact one_alloc w1 _
  have HG1 : Hid (w.heap.size ≤ kp) := by rw [← hkp]; exact HB1.out.size
  clear hW1 hkp
  refine wpB_then (n := 10) ?_
  gi_wp2
  obtain ⟨p0, p1, pf⟩ := prow2 HP1.out
  refine wpB_then (n := 10) ?_
  gi_wp2_with fail
  refine ⟨trivial, (callsIn_wide.2 (fwd_any Bo (l.length : Int) _)).mono ?_⟩
  rintro e w3 ⟨rfl, hw3⟩
  obtain ⟨b1, hb1⟩ : ∃ b1, W1.heap.size = b1 := ⟨_, rfl⟩
  rw [hb1]
  have HX3 : Hid (w3.heap[b1]? = some (.cells #[.string Bo, .int .i64 (l.length : Int)] 349)) := by rw [hw3, ← hb1]; exact one_alloc W1 _
  have hbw : Below W1.heap.size W1 w3 := by rw [hw3]; exact (Below.refl _ _).alloc (Nat.le_refl _) _
  have HP3 : Hid _ := keep_row HP1.out hbw
  have HB3 : Hid (Below w.heap.size w w3) := bel_to HB2.out hbw (Nat.le_refl _)
  clear hw3 hbw p0 p1 pf hb1
  obtain ⟨p0, p1, pf⟩ := prow2 HP3.out
  gi_wp2
  refine wpB_then (n := 10) ?_
  gi_wp2
  obtain ⟨w4, hw4⟩ : ∃ w4, w4 = w3 := ⟨_, rfl⟩
  obtain ⟨bx, hbx⟩ : ∃ bx, bx = b1 := ⟨_, rfl⟩
  rw [← hw4, ← hbx]
  have HX4 : Hid (w4.heap[bx]? = some (.cells #[.string Bo, .int .i64 (l.length : Int)] 349)) := by rw [hw4, hbx]; exact HX3.out
  have HP4 : Hid (w4.heap[kp]? = some (.cells #[.string Bo, .int .i64 (l.length : Int)] 349)) := by rw [hw4]; exact HP3.out
  have HB4 : Hid (Below w.heap.size w w4) := by rw [hw4]; exact HB3.out
  clear hw4 p0 p1 pf hbx
  obtain ⟨p0, p1, pf⟩ := prow2 HP4.out
  refine wpB_then (n := 10) ?_
  gi_wp2_with (gi_at_make; refine wpListIn_make_own _ rfl _ _ 28 rfl w.heap.size 9 i9 (.string ⟨#[]⟩) 1 Tryz.underlying28 HI9.out.1 HI9.out.2.1 HI9.out.2.2.1 .i64 .i64 (l.length : Int) l.length rfl rfl rfl (by rw [HI9.out.2.2.2]; omega) (by unfold maxLen; omega) HB4.out.size ?_; intro w5 hown5 hgrow5)
  obtain ⟨g, hg⟩ : ∃ g, w4.heap.size = g := ⟨_, rfl⟩
  obtain ⟨kl, hkl⟩ : ∃ kl, w5.heap.size = kl := ⟨_, rfl⟩
  obtain ⟨w6, hw6⟩ : ∃ w6, w6 = w5.alloc (.cells #[.slice (some ⟨w4.heap.size, 0, none⟩) 0 l.length] 28) := ⟨_, rfl⟩
  rw [← hw6, hkl]
  rw [hg] at hw6 hown5 ⊢
  have HB5 : Hid (Below w.heap.size w w5) := HB4.out.grown hgrow5 HB4.out.size (fun k hk => by cases hk)
  have HX5 : Hid _ := keep_row HX4.out ((Below.refl _ w4).grown hgrow5 (Nat.le_refl _) (fun k hk => by cases hk))
  have HG5 : Hid _ := rown_form hown5
  have hbw : Below w5.heap.size w5 w6 := by rw [hw6]; exact (Below.refl _ _).alloc (Nat.le_refl _) _
  have HB6 : Hid (Below w.heap.size w w6) := bel_to HB5.out hbw (Nat.le_refl _)
  have HX6 : Hid _ := keep_row HX5.out hbw
  have HG6 : Hid (∃ cur, w6.heap[g]? = some (.cells cur 9) ∧ cur.size = l.length ∧ cur.toList.take 0 = []) := by
    obtain ⟨cur, h1, h2, h3⟩ := HG5.out
    exact ⟨cur, keep_row h1 hbw, h2, h3⟩
  have HK6 : Hid (w6.heap[kl]? = some (.cells #[.slice (some ⟨g, 0, none⟩) 0 l.length] 28)) := by rw [hw6, ← hkl]; exact one_alloc w5 _
  have HD6 : Hid (w.heap.size ≤ g ∧ g < w6.heap.size ∧ w.heap.size ≤ kl ∧ kl < w6.heap.size ∧ g ≠ kl ∧ bx ≠ g ∧ bx ≠ kl) := by
    obtain ⟨cur, h1, _, _⟩ := HG5.out
    have h2 := row_lt h1
    have h3 := row_lt HK6.out
    have h4 := HB4.out.size
    have h5 := HB5.out.size
    have h6 := hbw.size
    have h7 := row_lt HX4.out
    refine ⟨by omega, by omega, by omega, h3, by omega, by omega, by omega⟩
  clear hw6 hbw hown5 hgrow5 hg hkl p0 p1 pf
  refine wpB_seq (wpB_then (n := 10) ?_)
  gi_wp2
  refine wpB_block ?_
  have hseq := fwd_seq 9 Bo (l.length : Int) bx (l.length + LM.bsum l + 1) w6.heap.size (by omega) (by omega)
  rw [HBL.out, LM.parse_body l _ 0 0 hl (by omega)] at hseq
  have HSQ : Hid _ := hseq
  clear hseq
  refine WpB_act (fun a0 ha0 => ?_)
  refine wpB_range (n := 10) (α := LM.Ent) (encs := encs) (L := (LM.entsFrom 0 0 l)) (bad := false) (pch := pch) (box := Box Bo (l.length : Int) bx) Tryz.func305 (gf := 320) (lb := #[.pointer (some ⟨bx, 0, none⟩)]) (by rw [ha0]; rfl) (enters_of Tryz.func320 (by kernel_rfl) rfl) HSQ.out (fun _ => rfl)
    (fun pre W => (∃ cur, W.heap[g]? = some (.cells cur 9) ∧ cur.size = l.length ∧ cur.toList.take pre.length = pre.map encV) ∧ W.heap[kl]? = some (.cells #[.slice (some ⟨g, 0, none⟩) pre.length l.length] 28) ∧ W.heap[bx]? = some (.cells #[.string Bo, .int .i64 (l.length : Int)] 349) ∧ Below w.heap.size w W)
    (fun cd pre W => False)
    (fun _ => False)
    ?hI ?hIx (fun _ _ _ _ hs _ _ => hs) ?hbox ?h0
    (fun (x : LM.Ent) (a' : Act) (W : World) => ∃ kk : Nat, a' = { tmps := ((a0.tmps.setIfInBounds 29 (.int .i64 (x.place : Int))).setIfInBounds 30 (encE x.it x.begin x.span)).setIfInBounds 11 (.pointer (some ⟨kk, 0, none⟩)), defers := [] } ∧ W.heap[kk]? = some (.cells #[.string (strB x.it.txt), .int .i64 x.it.num, .bool x.it.isN, .int .i64 (x.begin : Int), .int .i64 (x.span : Int)] 387)) ?hAx ?assign ?body ?done ?stop ?pan
  case hI =>
    rintro s A B row ⟨⟨cur, h1, h2, h3⟩, h4, h5, h6⟩ hg hr
    exact ⟨⟨cur, own_row h1 hg hr, h2, h3⟩, own_row h4 hg hr, own_row h5 hg hr, ownFrom_below (β := Unit) (Nat.le_refl _) HB6.out.size () A B row h6 hg hr⟩
  case hIx => rintro cd s A B row h hg hr; exact h
  case hbox =>
    rintro pre W ⟨h1, h2, h3, h4⟩
    exact ⟨h3, (HW.out.on h4).wid⟩
  case h0 =>
    obtain ⟨cur, h1, h2, h3⟩ := HG6.out
    exact ⟨⟨cur, h1, h2, h3⟩, HK6.out, HX6.out, HB6.out⟩
  case hAx =>
    rintro x a' s A B row ⟨kk, h1, h2⟩ hg hr
    exact ⟨kk, h1, own_row h2 hg hr⟩
  case pan => intro D W _ h; rcases h with h | ⟨h, _⟩; exact h.elim; cases h
  case stop => rintro D cd pre W hD hpre h hDr; exact h.elim
  case assign =>
    intro ll pre x W K hpre hI hK
    have HKK : Hid _ := hK
    clear hK hI
    obtain ⟨pl, ⟨t, m, q⟩, a, n⟩ := x
    obtain ⟨T, hT⟩ : ∃ T, strB t = T := ⟨_, rfl⟩
    have HA0 : Hid _ := ha0
    rw [ha0]
    simp only [encs, encE, hT, List.zip_toArray, List.zip_cons_cons, List.zip_nil_right, List.foldl_toArray, List.foldl_cons, List.foldl_nil, List.setIfInBounds_toArray, List.set_cons_zero, List.set_cons_succ]
    clear ha0
    gi_wp2
    refine HKK.out _ _ ((Below.refl _ W).alloc (Nat.le_refl _) _) ⟨W.heap.size, ?_, ?_⟩
    · rw [HA0.out, ← hT]; rfl
    · rw [hT]; exact one_alloc W _
  case body =>
    rintro ll pre x a' W hll hpre ⟨⟨cur, hG, hGs, hGt⟩, hK, hX, hb⟩ ⟨kk, ha', hrow⟩
    have hmem : x ∈ LM.entsFrom 0 0 l := hpre.subset (by simp)
    have hlp : pre.length + 1 ≤ l.length := by
      have := hpre.length_le
      rw [HLL.out, List.length_append] at this; simpa using this
    obtain ⟨jj, hjj, hx⟩ := ents_pl l x hmem
    have hwf : LM.Wf x.it := by rw [hx]; exact hl _ (List.getElem_mem hjj)
    have HVA : Hid (∀ W, Laid W → Calls Tryz.prog 259 #[.agg #[.string (strB x.it.txt), .int .i64 x.it.num, .bool x.it.isN]] W fun e w' => e = .returned (.string (strB (LM.val x.it))) ∧ Below W.heap.size W w') := fun W hW => value_any x.it hwf W hW
    clear hx hmem hjj hwf
    have HVX : Hid (encV x = .string (strB (LM.val x.it))) := rfl
    obtain ⟨pl, ⟨t, m, q⟩, a, n⟩ := x
    simp only at HVA HVX
    generalize strB (LM.val ⟨t, m, q⟩) = VV at *
    obtain ⟨T, hT⟩ : ∃ T, strB t = T := ⟨_, rfl⟩
    simp only [encE, hT] at ha' hrow HVA
    have HXX : Hid _ := hX
    have HB : Hid (Below w.heap.size w W) := hb
    have hKd : W.drew.heap[kl]? = some (.cells #[.slice (some ⟨g, 0, none⟩) pre.length l.length] 28) := hK
    have hGd : W.drew.heap[g]? = some (.cells cur 9) := hG
    obtain ⟨i0, if0⟩ := row1 hK
    obtain ⟨k0, k1, k2, k3, k4, kf⟩ := row5 hrow
    have hlay : Laid W.drew := (HW.out.on (below_dn hb 1)).laid
    have HC : Hid (cur.size = l.length ∧ cur.toList.take pre.length = pre.map encV ∧ pre.length ≤ l.length ∧ l.length ≤ maxLen ∧ w.heap.size ≤ g ∧ g ≠ kl ∧ pre.length + 1 ≤ l.length) := ⟨hGs, hGt, by omega, by unfold maxLen; omega, HD6.out.1, HD6.out.2.2.2.2.1, hlp⟩
    have hmx : Tryz.prog.follows .mixedOrders = true := by kernel_rfl
    have hi9 := HI9.out.1
    have hz1 := HI9.out.2.2.1
    rw [ha', ha0]
    simp only [List.setIfInBounds_toArray, List.set_cons_zero, List.set_cons_succ]
    clear ha' ha0 hX hb hpre hG hGs hGt hK hlp
    gi_wp2_with fail
    refine wpIn_region_any (by kernel_rfl) ?_
    change wpAnyIn _ _ _ _ _ _ _ _ _ W.drew
    refine wpAnyIn_ready (rs := [0, 1]) (by kernel_rfl) (by simp) ?_
    refine AllReadyIn.cons rfl (fun K hK => ?_) (AllReadyIn.cons rfl (fun K hK => ?_) AllReadyIn.nil)
    · go_simp
      refine hK _ _ ?_; clear hK K
      refine wpAnyIn_ready (rs := [1]) (by kernel_rfl) (by simp) ?_
      refine AllReadyIn.cons rfl (fun K hK => ?_) AllReadyIn.nil
      go_simp
      refine hK _ _ ?_; clear hK K
      refine wpAnyIn_ready (rs := [2]) (by kernel_rfl) (by simp) ?_
      refine AllReadyIn.cons rfl (fun K hK => ?_) AllReadyIn.nil
      go_simp
      refine hK _ _ ?_; clear hK K
      refine wpAnyIn_ready (rs := [3]) (by kernel_rfl) (by simp) ?_
      refine AllReadyIn.cons rfl (fun K hK => ?_) AllReadyIn.nil
      go_simp
      gi_wp2_with ((refine ⟨trivial, ?_⟩; gi_at_call 259; refine (CallsIn.inRound ll (callsIn_wide.2 (HVA.out _ hlay))).mono ?_; rintro e w5 ⟨rfl, hb5⟩; have hK5 := keep_row hKd hb5; have hG5 := keep_row hGd hb5; have HB5' : Hid (Below W.drew.heap.size W.drew w5) := hb5; have HK5a : Hid ((w5.alloc (.cells #[.string VV] 9)).heap[kl]? = some (.cells #[.slice (some ⟨g, 0, none⟩) pre.length l.length] 28)) := keep_row hK5 ((Below.refl _ w5).alloc (Nat.le_refl _) _); obtain ⟨i0, if0⟩ := row1 hK5; obtain ⟨i5, if5⟩ := row1 HK5a.out; clear hb5 hlay))
      refine wpAnyIn_ready (rs := [4]) (by kernel_rfl) (by simp) ?_
      refine AllReadyIn.cons rfl (fun K hK => ?_) AllReadyIn.nil
      go_simp
      refine hK _ _ ?_; clear hK K
      refine wpAnyIn_ready (rs := [5]) (by kernel_rfl) (by simp) ?_
      refine AllReadyIn.cons rfl (fun K hK => ?_) AllReadyIn.nil
      rw [if_pos (by rfl)]
      refine opIn_append_fits _ _ _ 28 rfl w.heap.size 9 i9 1 Tryz.underlying28 hi9 hz1 g pre.length l.length (pre.map encV) rfl (rown_mk HC.out.2.2.2.2.1 HC.out.2.2.1 HC.out.2.2.2.1 (keep_row hG5 ((Below.refl _ w5).alloc (Nat.le_refl _) _)) HC.out.1 HC.out.2.1) ⟨w5.heap.size, 0, none⟩ 1 1 [.string VV] rfl rfl (cell_one_new _ _ _) (by simp [Value.oneCell']) HC.out.2.2.2.2.2.2 ?_
      intro w7 hown7 hgrow7
      refine hK _ _ ?_; clear hK K
      have hK7 : w7.heap[kl]? = some (.cells #[.slice (some ⟨g, 0, none⟩) pre.length l.length] 28) := (hgrow7.block kl (row_lt HK5a.out) (fun x => by injection x with x; exact HC.out.2.2.2.2.2.1 x.symm)).trans HK5a.out
      obtain ⟨i7, if7⟩ := row1 hK7
      have HGR : Hid _ := hgrow7
      have HOW7 : Hid _ := hown7
      clear hgrow7 hown7 i0 if0 i5 if5
      refine wpAnyIn_ready (rs := [6]) (by kernel_rfl) (by simp) ?_
      refine AllReadyIn.cons rfl (fun K hK => ?_) AllReadyIn.nil
      go_simp
      refine hK _ _ ?_; clear hK K
      refine wpAnyIn_done (by kernel_rfl) ?_ _
      gi_wp2
      have hd := HD6.out
      have hbwx : Below W.heap.size W w5 := (below_dn (Below.refl _ W) 1).trans HB5'.out
      have hbwa : Below W.heap.size W (w5.alloc (.cells #[.string VV] 9)) := hbwx.alloc hbwx.size _
      refine ⟨((KA.of_below hbwa).trans (KA.grown HGR.out hd.2.1)).trans (KA.setCell _ _ _ hd.2.2.2.1), ?_, ?_, ?_, ?_⟩
      · obtain ⟨cur', q1, q2, q3⟩ := rown_form HOW7.out
        refine ⟨cur', (heap_setCell_other _ _ _ _ hd.2.2.2.2.1).trans q1, q2, ?_⟩
        rw [List.length_append, List.map_append]
        simpa [HVX.out] using q3
      · rw [heap_setCell_same _ _ _ _ _ _ hK7, List.length_append]; rfl
      · refine (heap_setCell_other _ _ _ _ hd.2.2.2.2.2.2).trans ?_
        exact (HGR.out.block bx (row_lt (keep_row HXX.out hbwa)) (fun x => by injection x with x; exact hd.2.2.2.2.2.1 x)).trans (keep_row HXX.out hbwa)
      · exact ((bel_to HB.out hbwa (Nat.le_refl _)).grown HGR.out (Nat.le_trans HB.out.size hbwa.size) (fun k hk => by injection hk with hk; rw [← hk]; exact hd.1)).setCell (p := ⟨kl, 0, none⟩) hd.2.2.1 _
    · go_simp
      refine hK _ _ ?_; clear hK K
      refine wpAnyIn_ready (rs := [0, 2]) (by kernel_rfl) (by simp) ?_
      refine AllReadyIn.cons rfl (fun K hK => ?_) (AllReadyIn.cons rfl (fun K hK => ?_) AllReadyIn.nil)
      · go_simp
        refine hK _ _ ?_; clear hK K
        refine wpAnyIn_ready (rs := [2]) (by kernel_rfl) (by simp) ?_
        refine AllReadyIn.cons rfl (fun K hK => ?_) AllReadyIn.nil
        go_simp
        refine hK _ _ ?_; clear hK K
        refine wpAnyIn_ready (rs := [3]) (by kernel_rfl) (by simp) ?_
        refine AllReadyIn.cons rfl (fun K hK => ?_) AllReadyIn.nil
        go_simp
        gi_wp2_with ((refine ⟨trivial, ?_⟩; gi_at_call 259; refine (CallsIn.inRound ll (callsIn_wide.2 (HVA.out _ hlay))).mono ?_; rintro e w5 ⟨rfl, hb5⟩; have hK5 := keep_row hKd hb5; have hG5 := keep_row hGd hb5; have HB5' : Hid (Below W.drew.heap.size W.drew w5) := hb5; have HK5a : Hid ((w5.alloc (.cells #[.string VV] 9)).heap[kl]? = some (.cells #[.slice (some ⟨g, 0, none⟩) pre.length l.length] 28)) := keep_row hK5 ((Below.refl _ w5).alloc (Nat.le_refl _) _); obtain ⟨i0, if0⟩ := row1 hK5; obtain ⟨i5, if5⟩ := row1 HK5a.out; clear hb5 hlay))
        refine wpAnyIn_ready (rs := [4]) (by kernel_rfl) (by simp) ?_
        refine AllReadyIn.cons rfl (fun K hK => ?_) AllReadyIn.nil
        go_simp
        refine hK _ _ ?_; clear hK K
        refine wpAnyIn_ready (rs := [5]) (by kernel_rfl) (by simp) ?_
        refine AllReadyIn.cons rfl (fun K hK => ?_) AllReadyIn.nil
        rw [if_pos (by rfl)]
        refine opIn_append_fits _ _ _ 28 rfl w.heap.size 9 i9 1 Tryz.underlying28 hi9 hz1 g pre.length l.length (pre.map encV) rfl (rown_mk HC.out.2.2.2.2.1 HC.out.2.2.1 HC.out.2.2.2.1 (keep_row hG5 ((Below.refl _ w5).alloc (Nat.le_refl _) _)) HC.out.1 HC.out.2.1) ⟨w5.heap.size, 0, none⟩ 1 1 [.string VV] rfl rfl (cell_one_new _ _ _) (by simp [Value.oneCell']) HC.out.2.2.2.2.2.2 ?_
        intro w7 hown7 hgrow7
        refine hK _ _ ?_; clear hK K
        have hK7 : w7.heap[kl]? = some (.cells #[.slice (some ⟨g, 0, none⟩) pre.length l.length] 28) := (hgrow7.block kl (row_lt HK5a.out) (fun x => by injection x with x; exact HC.out.2.2.2.2.2.1 x.symm)).trans HK5a.out
        obtain ⟨i7, if7⟩ := row1 hK7
        have HGR : Hid _ := hgrow7
        have HOW7 : Hid _ := hown7
        clear hgrow7 hown7 i0 if0 i5 if5
        refine wpAnyIn_ready (rs := [6]) (by kernel_rfl) (by simp) ?_
        refine AllReadyIn.cons rfl (fun K hK => ?_) AllReadyIn.nil
        go_simp
        refine hK _ _ ?_; clear hK K
        refine wpAnyIn_done (by kernel_rfl) ?_ _
        gi_wp2
        have hd := HD6.out
        have hbwx : Below W.heap.size W w5 := (below_dn (Below.refl _ W) 1).trans HB5'.out
        have hbwa : Below W.heap.size W (w5.alloc (.cells #[.string VV] 9)) := hbwx.alloc hbwx.size _
        refine ⟨((KA.of_below hbwa).trans (KA.grown HGR.out hd.2.1)).trans (KA.setCell _ _ _ hd.2.2.2.1), ?_, ?_, ?_, ?_⟩
        · obtain ⟨cur', q1, q2, q3⟩ := rown_form HOW7.out
          refine ⟨cur', (heap_setCell_other _ _ _ _ hd.2.2.2.2.1).trans q1, q2, ?_⟩
          rw [List.length_append, List.map_append]
          simpa [HVX.out] using q3
        · rw [heap_setCell_same _ _ _ _ _ _ hK7, List.length_append]; rfl
        · refine (heap_setCell_other _ _ _ _ hd.2.2.2.2.2.2).trans ?_
          exact (HGR.out.block bx (row_lt (keep_row HXX.out hbwa)) (fun x => by injection x with x; exact hd.2.2.2.2.2.1 x)).trans (keep_row HXX.out hbwa)
        · exact ((bel_to HB.out hbwa (Nat.le_refl _)).grown HGR.out (Nat.le_trans HB.out.size hbwa.size) (fun k hk => by injection hk with hk; rw [← hk]; exact hd.1)).setCell (p := ⟨kl, 0, none⟩) hd.2.2.1 _
      · go_simp
        refine hK _ _ ?_; clear hK K
        refine wpAnyIn_ready (rs := [0, 3]) (by kernel_rfl) (by simp) ?_
        refine AllReadyIn.cons rfl (fun K hK => ?_) (AllReadyIn.cons rfl (fun K hK => ?_) AllReadyIn.nil)
        · go_simp
          refine hK _ _ ?_; clear hK K
          refine wpAnyIn_ready (rs := [3]) (by kernel_rfl) (by simp) ?_
          refine AllReadyIn.cons rfl (fun K hK => ?_) AllReadyIn.nil
          go_simp
          gi_wp2_with ((refine ⟨trivial, ?_⟩; gi_at_call 259; refine (CallsIn.inRound ll (callsIn_wide.2 (HVA.out _ hlay))).mono ?_; rintro e w5 ⟨rfl, hb5⟩; have hK5 := keep_row hKd hb5; have hG5 := keep_row hGd hb5; have HB5' : Hid (Below W.drew.heap.size W.drew w5) := hb5; have HK5a : Hid ((w5.alloc (.cells #[.string VV] 9)).heap[kl]? = some (.cells #[.slice (some ⟨g, 0, none⟩) pre.length l.length] 28)) := keep_row hK5 ((Below.refl _ w5).alloc (Nat.le_refl _) _); obtain ⟨i0, if0⟩ := row1 hK5; obtain ⟨i5, if5⟩ := row1 HK5a.out; clear hb5 hlay))
          refine wpAnyIn_ready (rs := [4]) (by kernel_rfl) (by simp) ?_
          refine AllReadyIn.cons rfl (fun K hK => ?_) AllReadyIn.nil
          go_simp
          refine hK _ _ ?_; clear hK K
          refine wpAnyIn_ready (rs := [5]) (by kernel_rfl) (by simp) ?_
          refine AllReadyIn.cons rfl (fun K hK => ?_) AllReadyIn.nil
          rw [if_pos (by rfl)]
          refine opIn_append_fits _ _ _ 28 rfl w.heap.size 9 i9 1 Tryz.underlying28 hi9 hz1 g pre.length l.length (pre.map encV) rfl (rown_mk HC.out.2.2.2.2.1 HC.out.2.2.1 HC.out.2.2.2.1 (keep_row hG5 ((Below.refl _ w5).alloc (Nat.le_refl _) _)) HC.out.1 HC.out.2.1) ⟨w5.heap.size, 0, none⟩ 1 1 [.string VV] rfl rfl (cell_one_new _ _ _) (by simp [Value.oneCell']) HC.out.2.2.2.2.2.2 ?_
          intro w7 hown7 hgrow7
          refine hK _ _ ?_; clear hK K
          have hK7 : w7.heap[kl]? = some (.cells #[.slice (some ⟨g, 0, none⟩) pre.length l.length] 28) := (hgrow7.block kl (row_lt HK5a.out) (fun x => by injection x with x; exact HC.out.2.2.2.2.2.1 x.symm)).trans HK5a.out
          obtain ⟨i7, if7⟩ := row1 hK7
          have HGR : Hid _ := hgrow7
          have HOW7 : Hid _ := hown7
          clear hgrow7 hown7 i0 if0 i5 if5
          refine wpAnyIn_ready (rs := [6]) (by kernel_rfl) (by simp) ?_
          refine AllReadyIn.cons rfl (fun K hK => ?_) AllReadyIn.nil
          go_simp
          refine hK _ _ ?_; clear hK K
          refine wpAnyIn_done (by kernel_rfl) ?_ _
          gi_wp2
          have hd := HD6.out
          have hbwx : Below W.heap.size W w5 := (below_dn (Below.refl _ W) 1).trans HB5'.out
          have hbwa : Below W.heap.size W (w5.alloc (.cells #[.string VV] 9)) := hbwx.alloc hbwx.size _
          refine ⟨((KA.of_below hbwa).trans (KA.grown HGR.out hd.2.1)).trans (KA.setCell _ _ _ hd.2.2.2.1), ?_, ?_, ?_, ?_⟩
          · obtain ⟨cur', q1, q2, q3⟩ := rown_form HOW7.out
            refine ⟨cur', (heap_setCell_other _ _ _ _ hd.2.2.2.2.1).trans q1, q2, ?_⟩
            rw [List.length_append, List.map_append]
            simpa [HVX.out] using q3
          · rw [heap_setCell_same _ _ _ _ _ _ hK7, List.length_append]; rfl
          · refine (heap_setCell_other _ _ _ _ hd.2.2.2.2.2.2).trans ?_
            exact (HGR.out.block bx (row_lt (keep_row HXX.out hbwa)) (fun x => by injection x with x; exact hd.2.2.2.2.2.1 x)).trans (keep_row HXX.out hbwa)
          · exact ((bel_to HB.out hbwa (Nat.le_refl _)).grown HGR.out (Nat.le_trans HB.out.size hbwa.size) (fun k hk => by injection hk with hk; rw [← hk]; exact hd.1)).setCell (p := ⟨kl, 0, none⟩) hd.2.2.1 _
        · go_simp
          gi_wp2_with ((refine ⟨trivial, ?_⟩; gi_at_call 259; refine (CallsIn.inRound ll (callsIn_wide.2 (HVA.out _ hlay))).mono ?_; rintro e w5 ⟨rfl, hb5⟩; have hK5 := keep_row hKd hb5; have hG5 := keep_row hGd hb5; have HB5' : Hid (Below W.drew.heap.size W.drew w5) := hb5; have HK5a : Hid ((w5.alloc (.cells #[.string VV] 9)).heap[kl]? = some (.cells #[.slice (some ⟨g, 0, none⟩) pre.length l.length] 28)) := keep_row hK5 ((Below.refl _ w5).alloc (Nat.le_refl _) _); obtain ⟨i0, if0⟩ := row1 hK5; obtain ⟨i5, if5⟩ := row1 HK5a.out; clear hb5 hlay))
          refine wpAnyIn_ready (rs := [0, 4]) (by kernel_rfl) (by simp) ?_
          refine AllReadyIn.cons rfl (fun K hK => ?_) (AllReadyIn.cons rfl (fun K hK => ?_) AllReadyIn.nil)
          · go_simp
            refine hK _ _ ?_; clear hK K
            refine wpAnyIn_ready (rs := [4]) (by kernel_rfl) (by simp) ?_
            refine AllReadyIn.cons rfl (fun K hK => ?_) AllReadyIn.nil
            go_simp
            refine hK _ _ ?_; clear hK K
            refine wpAnyIn_ready (rs := [5]) (by kernel_rfl) (by simp) ?_
            refine AllReadyIn.cons rfl (fun K hK => ?_) AllReadyIn.nil
            rw [if_pos (by rfl)]
            refine opIn_append_fits _ _ _ 28 rfl w.heap.size 9 i9 1 Tryz.underlying28 hi9 hz1 g pre.length l.length (pre.map encV) rfl (rown_mk HC.out.2.2.2.2.1 HC.out.2.2.1 HC.out.2.2.2.1 (keep_row hG5 ((Below.refl _ w5).alloc (Nat.le_refl _) _)) HC.out.1 HC.out.2.1) ⟨w5.heap.size, 0, none⟩ 1 1 [.string VV] rfl rfl (cell_one_new _ _ _) (by simp [Value.oneCell']) HC.out.2.2.2.2.2.2 ?_
            intro w7 hown7 hgrow7
            refine hK _ _ ?_; clear hK K
            have hK7 : w7.heap[kl]? = some (.cells #[.slice (some ⟨g, 0, none⟩) pre.length l.length] 28) := (hgrow7.block kl (row_lt HK5a.out) (fun x => by injection x with x; exact HC.out.2.2.2.2.2.1 x.symm)).trans HK5a.out
            obtain ⟨i7, if7⟩ := row1 hK7
            have HGR : Hid _ := hgrow7
            have HOW7 : Hid _ := hown7
            clear hgrow7 hown7 i0 if0 i5 if5
            refine wpAnyIn_ready (rs := [6]) (by kernel_rfl) (by simp) ?_
            refine AllReadyIn.cons rfl (fun K hK => ?_) AllReadyIn.nil
            go_simp
            refine hK _ _ ?_; clear hK K
            refine wpAnyIn_done (by kernel_rfl) ?_ _
            gi_wp2
            have hd := HD6.out
            have hbwx : Below W.heap.size W w5 := (below_dn (Below.refl _ W) 1).trans HB5'.out
            have hbwa : Below W.heap.size W (w5.alloc (.cells #[.string VV] 9)) := hbwx.alloc hbwx.size _
            refine ⟨((KA.of_below hbwa).trans (KA.grown HGR.out hd.2.1)).trans (KA.setCell _ _ _ hd.2.2.2.1), ?_, ?_, ?_, ?_⟩
            · obtain ⟨cur', q1, q2, q3⟩ := rown_form HOW7.out
              refine ⟨cur', (heap_setCell_other _ _ _ _ hd.2.2.2.2.1).trans q1, q2, ?_⟩
              rw [List.length_append, List.map_append]
              simpa [HVX.out] using q3
            · rw [heap_setCell_same _ _ _ _ _ _ hK7, List.length_append]; rfl
            · refine (heap_setCell_other _ _ _ _ hd.2.2.2.2.2.2).trans ?_
              exact (HGR.out.block bx (row_lt (keep_row HXX.out hbwa)) (fun x => by injection x with x; exact hd.2.2.2.2.2.1 x)).trans (keep_row HXX.out hbwa)
            · exact ((bel_to HB.out hbwa (Nat.le_refl _)).grown HGR.out (Nat.le_trans HB.out.size hbwa.size) (fun k hk => by injection hk with hk; rw [← hk]; exact hd.1)).setCell (p := ⟨kl, 0, none⟩) hd.2.2.1 _
          · go_simp
            refine hK _ _ ?_; clear hK K
            refine wpAnyIn_ready (rs := [0]) (by kernel_rfl) (by simp) ?_
            refine AllReadyIn.cons rfl (fun K hK => ?_) AllReadyIn.nil
            go_simp
            refine hK _ _ ?_; clear hK K
            refine wpAnyIn_ready (rs := [5]) (by kernel_rfl) (by simp) ?_
            refine AllReadyIn.cons rfl (fun K hK => ?_) AllReadyIn.nil
            rw [if_pos (by rfl)]
            refine opIn_append_fits _ _ _ 28 rfl w.heap.size 9 i9 1 Tryz.underlying28 hi9 hz1 g pre.length l.length (pre.map encV) rfl (rown_mk HC.out.2.2.2.2.1 HC.out.2.2.1 HC.out.2.2.2.1 (keep_row hG5 ((Below.refl _ w5).alloc (Nat.le_refl _) _)) HC.out.1 HC.out.2.1) ⟨w5.heap.size, 0, none⟩ 1 1 [.string VV] rfl rfl (cell_one_new _ _ _) (by simp [Value.oneCell']) HC.out.2.2.2.2.2.2 ?_
            intro w7 hown7 hgrow7
            refine hK _ _ ?_; clear hK K
            have hK7 : w7.heap[kl]? = some (.cells #[.slice (some ⟨g, 0, none⟩) pre.length l.length] 28) := (hgrow7.block kl (row_lt HK5a.out) (fun x => by injection x with x; exact HC.out.2.2.2.2.2.1 x.symm)).trans HK5a.out
            obtain ⟨i7, if7⟩ := row1 hK7
            have HGR : Hid _ := hgrow7
            have HOW7 : Hid _ := hown7
            clear hgrow7 hown7 i0 if0 i5 if5
            refine wpAnyIn_ready (rs := [6]) (by kernel_rfl) (by simp) ?_
            refine AllReadyIn.cons rfl (fun K hK => ?_) AllReadyIn.nil
            go_simp
            refine hK _ _ ?_; clear hK K
            refine wpAnyIn_done (by kernel_rfl) ?_ _
            gi_wp2
            have hd := HD6.out
            have hbwx : Below W.heap.size W w5 := (below_dn (Below.refl _ W) 1).trans HB5'.out
            have hbwa : Below W.heap.size W (w5.alloc (.cells #[.string VV] 9)) := hbwx.alloc hbwx.size _
            refine ⟨((KA.of_below hbwa).trans (KA.grown HGR.out hd.2.1)).trans (KA.setCell _ _ _ hd.2.2.2.1), ?_, ?_, ?_, ?_⟩
            · obtain ⟨cur', q1, q2, q3⟩ := rown_form HOW7.out
              refine ⟨cur', (heap_setCell_other _ _ _ _ hd.2.2.2.2.1).trans q1, q2, ?_⟩
              rw [List.length_append, List.map_append]
              simpa [HVX.out] using q3
            · rw [heap_setCell_same _ _ _ _ _ _ hK7, List.length_append]; rfl
            · refine (heap_setCell_other _ _ _ _ hd.2.2.2.2.2.2).trans ?_
              exact (HGR.out.block bx (row_lt (keep_row HXX.out hbwa)) (fun x => by injection x with x; exact hd.2.2.2.2.2.1 x)).trans (keep_row HXX.out hbwa)
            · exact ((bel_to HB.out hbwa (Nat.le_refl _)).grown HGR.out (Nat.le_trans HB.out.size hbwa.size) (fun k hk => by injection hk with hk; rw [← hk]; exact hd.1)).setCell (p := ⟨kl, 0, none⟩) hd.2.2.1 _
  case done =>
    rintro D W hD _ ⟨⟨cur, hG, hGs, hGt⟩, hK, hX, hb⟩ hDr
    rw [ha0]
    rw [HLL.out] at hGt hK
    rw [HVL.out] at hGt
    obtain ⟨i0, if0⟩ := row1 hK
    have HG : Hid _ := hG
    have HGT : Hid _ := hGt
    have HGS : Hid _ := hGs
    have HDR : Hid _ := hDr
    have HB : Hid (Below w.heap.size w W) := hb
    have HLM : Hid (l.length ≤ maxLen) := by show _ ≤ _; unfold maxLen; omega
    clear ha0 hX hb hDr hK hG hGt hGs
    refine wpB_then (n := 10) ?_
    gi_wp2
    refine wpB_of (n := 10) ?_
    gi_wp2
    refine ⟨by simp, .inl ⟨_, _, rfl, run_takeDeferred HDR.out, ?_⟩⟩
    have h1 : g ≠ D := by rintro rfl; have := HDR.out; rw [HG.out] at this; cases this
    refine ⟨.tuple #[.slice (some ⟨g, 0, none⟩) l.length l.length, .int .i64 0], ?_, ⟨g, rfl, rown_mk HD6.out.1 (Nat.le_refl _) HLM.out (put_keep HG.out h1) HGS.out (by simpa using HGT.out)⟩, put_below HB.out (by have := HB6.out.size; omega)⟩
    simp [results, Tryz.results305, go_sem]
set_option maxHeartbeats 2000000 in
set_option maxRecDepth 100000 in
theorem Walk_b (p : ByteArray) (l : List LM.Item) (hpk : LM.Pk p.data.toList l) (w : World) (hw : Lay w) :
    Calls Tryz.prog 305 #[.string p, .bool true] w fun e w' => (∃ g, e = .returned (.tuple #[.slice (some ⟨g, 0, none⟩) l.length l.length, .int .i64 0]) ∧ w'.ownsRow w.heap.size 9 1 (.slice (some ⟨g, 0, none⟩) l.length l.length) l.length (l.reverse.map (fun it => Value.string (strB (LM.val it))))) ∧ Below w.heap.size w w' := by
  have HW : Hid (Lay w) := hw
  have HPK : Hid _ := hpk
  have hl := hpk.wf
  have hlen := hpk.len
  have hs : LM.bsum l ≤ 1073741824 := by have := hpk.size; rw [hpk.eq, LM.build_len] at this; omega
  have hge := LM.bsum_ge l
  have HRH : Hid (∀ W, Lay W → Calls Tryz.prog 257 #[.string p] W (rdP p W)) := fun W hW => read_any p (by have := hpk.size; rw [list_len] at this; omega) W hW
  obtain ⟨i9, hi9, hz0, hz1, hz2⟩ := info_parts info9
  have HI9 : Hid (Tryz.prog.info? 9 = some i9 ∧ i9.zero = some (.string ⟨#[]⟩) ∧ i9.size = 1 ∧ i9.bytes = 16) := ⟨hi9, hz0, hz1, hz2⟩
  clear hi9 hz0 hz1 hz2
  have HVL : Hid (((LM.entsFrom 0 0 l).reverse).map encV = l.reverse.map (fun it => Value.string (strB (LM.val it)))) := by
    show _ = _; rw [List.map_reverse, ents_vals, List.map_reverse]
  have HLL : Hid (((LM.entsFrom 0 0 l).reverse).length = l.length) := by show _ = _; rw [List.length_reverse, LM.ents_len]
  clear hw hpk
  refine calls_of_wpB (n := 10) Tryz.func305 rfl ?_
  simp only [Tryz.ntmps305, List.size_toArray, List.length_cons, List.length_nil, Nat.reduceAdd, Nat.reduceSub, Array.replicate_succ, Array.replicate_zero, List.push_toArray, List.append_toArray, List.nil_append, List.cons_append]
  refine wpB_then (n := 10) ?_
  gi_wp2
  refine wpB_then (n := 10) ?_
  gi_wp2_with fail
  refine ⟨trivial, (callsIn_wide.2 (HRH.out _ HW.out)).mono ?_⟩
  rintro e w1 ⟨⟨l', hl', rfl⟩ | ⟨hno, rfl⟩, hb1⟩
  case inr => exact absurd HPK.out (hno l)
  have he := HPK.out.uniq hl'
  subst he
  have HB1 : Hid (Below w.heap.size w w1) := hb1
  have hBs : (strB (LM.bodyOf l)).size = LM.bsum l := by rw [strB_size, LM.bodyOf_len]
  have HBL : Hid ((strB (LM.bodyOf l)).data.toList = LM.bodyOf l) := strB_list _
  clear hb1 hl'
  generalize strB (LM.bodyOf l) = Bo at *
  gi_wp2
  obtain ⟨kp, hkp⟩ : ∃ kp, w1.heap.size = kp := ⟨_, rfl⟩
  obtain ⟨W1, hW1⟩ : ∃ W1, W1 = w1.alloc (.cells #[.string Bo, .int .i64 (l.length : Int)] 349) := ⟨_, rfl⟩
  rw [← hW1, hkp]
  have HB2 : Hid (Below w.heap.size w W1) := by rw [hW1]; exact HB1.out.alloc HB1.out.size _
  have HP1 : Hid (W1.heap[kp]? = some (.cells #[.string Bo, .int .i64 (l.length : Int)] 349)) := by rw [hW1, ← hkp]; exact one_alloc w1 _
  have HG1 : Hid (w.heap.size ≤ kp) := by rw [← hkp]; exact HB1.out.size
  clear hW1 hkp
  refine wpB_then (n := 10) ?_
  gi_wp2
  obtain ⟨p0, p1, pf⟩ := prow2 HP1.out
  refine wpB_then (n := 10) ?_
  gi_wp2_with fail
  refine ⟨trivial, (callsIn_wide.2 (fwd_any Bo (l.length : Int) _)).mono ?_⟩
  rintro e w3 ⟨rfl, hw3⟩
  obtain ⟨b1, hb1⟩ : ∃ b1, W1.heap.size = b1 := ⟨_, rfl⟩
  rw [hb1]
  have HX3 : Hid (w3.heap[b1]? = some (.cells #[.string Bo, .int .i64 (l.length : Int)] 349)) := by rw [hw3, ← hb1]; exact one_alloc W1 _
  have hbw : Below W1.heap.size W1 w3 := by rw [hw3]; exact (Below.refl _ _).alloc (Nat.le_refl _) _
  have HP3 : Hid _ := keep_row HP1.out hbw
  have HB3 : Hid (Below w.heap.size w w3) := bel_to HB2.out hbw (Nat.le_refl _)
  clear hw3 hbw p0 p1 pf hb1
  obtain ⟨p0, p1, pf⟩ := prow2 HP3.out
  gi_wp2
  refine wpB_then (n := 10) ?_
  gi_wp2_with fail
  refine ⟨trivial, (callsIn_wide.2 (bwd_any Bo (l.length : Int) _)).mono ?_⟩
  rintro e w4 ⟨rfl, hw4⟩
  obtain ⟨bx, hbx⟩ : ∃ bx, w3.heap.size = bx := ⟨_, rfl⟩
  rw [hbx]
  have HX4 : Hid (w4.heap[bx]? = some (.cells #[.string Bo, .int .i64 (l.length : Int)] 349)) := by rw [hw4, ← hbx]; exact one_alloc w3 _
  have hbw : Below w3.heap.size w3 w4 := by rw [hw4]; exact (Below.refl _ _).alloc (Nat.le_refl _) _
  have HP4 : Hid _ := keep_row HP3.out hbw
  have HB4 : Hid (Below w.heap.size w w4) := bel_to HB3.out hbw (Nat.le_refl _)
  clear hw4 hbw p0 p1 pf hbx
  gi_wp2
  obtain ⟨p0, p1, pf⟩ := prow2 HP4.out
  refine wpB_then (n := 10) ?_
  gi_wp2_with (gi_at_make; refine wpListIn_make_own _ rfl _ _ 28 rfl w.heap.size 9 i9 (.string ⟨#[]⟩) 1 Tryz.underlying28 HI9.out.1 HI9.out.2.1 HI9.out.2.2.1 .i64 .i64 (l.length : Int) l.length rfl rfl rfl (by rw [HI9.out.2.2.2]; omega) (by unfold maxLen; omega) HB4.out.size ?_; intro w5 hown5 hgrow5)
  obtain ⟨g, hg⟩ : ∃ g, w4.heap.size = g := ⟨_, rfl⟩
  obtain ⟨kl, hkl⟩ : ∃ kl, w5.heap.size = kl := ⟨_, rfl⟩
  obtain ⟨w6, hw6⟩ : ∃ w6, w6 = w5.alloc (.cells #[.slice (some ⟨w4.heap.size, 0, none⟩) 0 l.length] 28) := ⟨_, rfl⟩
  rw [← hw6, hkl]
  rw [hg] at hw6 hown5 ⊢
  have HB5 : Hid (Below w.heap.size w w5) := HB4.out.grown hgrow5 HB4.out.size (fun k hk => by cases hk)
  have HX5 : Hid _ := keep_row HX4.out ((Below.refl _ w4).grown hgrow5 (Nat.le_refl _) (fun k hk => by cases hk))
  have HG5 : Hid _ := rown_form hown5
  have hbw : Below w5.heap.size w5 w6 := by rw [hw6]; exact (Below.refl _ _).alloc (Nat.le_refl _) _
  have HB6 : Hid (Below w.heap.size w w6) := bel_to HB5.out hbw (Nat.le_refl _)
  have HX6 : Hid _ := keep_row HX5.out hbw
  have HG6 : Hid (∃ cur, w6.heap[g]? = some (.cells cur 9) ∧ cur.size = l.length ∧ cur.toList.take 0 = []) := by
    obtain ⟨cur, h1, h2, h3⟩ := HG5.out
    exact ⟨cur, keep_row h1 hbw, h2, h3⟩
  have HK6 : Hid (w6.heap[kl]? = some (.cells #[.slice (some ⟨g, 0, none⟩) 0 l.length] 28)) := by rw [hw6, ← hkl]; exact one_alloc w5 _
  have HD6 : Hid (w.heap.size ≤ g ∧ g < w6.heap.size ∧ w.heap.size ≤ kl ∧ kl < w6.heap.size ∧ g ≠ kl ∧ bx ≠ g ∧ bx ≠ kl) := by
    obtain ⟨cur, h1, _, _⟩ := HG5.out
    have h2 := row_lt h1
    have h3 := row_lt HK6.out
    have h4 := HB4.out.size
    have h5 := HB5.out.size
    have h6 := hbw.size
    have h7 := row_lt HX4.out
    refine ⟨by omega, by omega, by omega, h3, by omega, by omega, by omega⟩
  clear hw6 hbw hown5 hgrow5 hg hkl p0 p1 pf
  refine wpB_seq (wpB_then (n := 10) ?_)
  gi_wp2
  refine wpB_block ?_
  have hseq := bwd_seq 9 l hl hs Bo HBL.out bx w6.heap.size
  have HSQ : Hid _ := hseq
  clear hseq
  refine WpB_act (fun a0 ha0 => ?_)
  refine wpB_range (n := 10) (α := LM.Ent) (encs := encs) (L := (LM.entsFrom 0 0 l).reverse) (bad := false) (pch := pch) (box := Box Bo (l.length : Int) bx) Tryz.func305 (gf := 372) (lb := #[.pointer (some ⟨bx, 0, none⟩)]) (by rw [ha0]; rfl) (enters_of Tryz.func372 (by kernel_rfl) rfl) HSQ.out (fun _ => rfl)
    (fun pre W => (∃ cur, W.heap[g]? = some (.cells cur 9) ∧ cur.size = l.length ∧ cur.toList.take pre.length = pre.map encV) ∧ W.heap[kl]? = some (.cells #[.slice (some ⟨g, 0, none⟩) pre.length l.length] 28) ∧ W.heap[bx]? = some (.cells #[.string Bo, .int .i64 (l.length : Int)] 349) ∧ Below w.heap.size w W)
    (fun cd pre W => False)
    (fun _ => False)
    ?hI ?hIx (fun _ _ _ _ hs _ _ => hs) ?hbox ?h0
    (fun (x : LM.Ent) (a' : Act) (W : World) => ∃ kk : Nat, a' = { tmps := ((a0.tmps.setIfInBounds 29 (.int .i64 (x.place : Int))).setIfInBounds 30 (encE x.it x.begin x.span)).setIfInBounds 11 (.pointer (some ⟨kk, 0, none⟩)), defers := [] } ∧ W.heap[kk]? = some (.cells #[.string (strB x.it.txt), .int .i64 x.it.num, .bool x.it.isN, .int .i64 (x.begin : Int), .int .i64 (x.span : Int)] 387)) ?hAx ?assign ?body ?done ?stop ?pan
  case hI =>
    rintro s A B row ⟨⟨cur, h1, h2, h3⟩, h4, h5, h6⟩ hg hr
    exact ⟨⟨cur, own_row h1 hg hr, h2, h3⟩, own_row h4 hg hr, own_row h5 hg hr, ownFrom_below (β := Unit) (Nat.le_refl _) HB6.out.size () A B row h6 hg hr⟩
  case hIx => rintro cd s A B row h hg hr; exact h
  case hbox =>
    rintro pre W ⟨h1, h2, h3, h4⟩
    exact ⟨h3, (HW.out.on h4).wid⟩
  case h0 =>
    obtain ⟨cur, h1, h2, h3⟩ := HG6.out
    exact ⟨⟨cur, h1, h2, h3⟩, HK6.out, HX6.out, HB6.out⟩
  case hAx =>
    rintro x a' s A B row ⟨kk, h1, h2⟩ hg hr
    exact ⟨kk, h1, own_row h2 hg hr⟩
  case pan => intro D W _ h; rcases h with h | ⟨h, _⟩; exact h.elim; cases h
  case stop => rintro D cd pre W hD hpre h hDr; exact h.elim
  case assign =>
    intro ll pre x W K hpre hI hK
    have HKK : Hid _ := hK
    clear hK hI
    obtain ⟨pl, ⟨t, m, q⟩, a, n⟩ := x
    obtain ⟨T, hT⟩ : ∃ T, strB t = T := ⟨_, rfl⟩
    have HA0 : Hid _ := ha0
    rw [ha0]
    simp only [encs, encE, hT, List.zip_toArray, List.zip_cons_cons, List.zip_nil_right, List.foldl_toArray, List.foldl_cons, List.foldl_nil, List.setIfInBounds_toArray, List.set_cons_zero, List.set_cons_succ]
    clear ha0
    gi_wp2
    refine HKK.out _ _ ((Below.refl _ W).alloc (Nat.le_refl _) _) ⟨W.heap.size, ?_, ?_⟩
    · rw [HA0.out, ← hT]; rfl
    · rw [hT]; exact one_alloc W _
  case body =>
    rintro ll pre x a' W hll hpre ⟨⟨cur, hG, hGs, hGt⟩, hK, hX, hb⟩ ⟨kk, ha', hrow⟩
    have hmem : x ∈ LM.entsFrom 0 0 l := List.mem_reverse.1 (hpre.subset (by simp))
    have hlp : pre.length + 1 ≤ l.length := by
      have := hpre.length_le
      rw [HLL.out, List.length_append] at this; simpa using this
    obtain ⟨jj, hjj, hx⟩ := ents_pl l x hmem
    have hwf : LM.Wf x.it := by rw [hx]; exact hl _ (List.getElem_mem hjj)
    have HVA : Hid (∀ W, Laid W → Calls Tryz.prog 259 #[.agg #[.string (strB x.it.txt), .int .i64 x.it.num, .bool x.it.isN]] W fun e w' => e = .returned (.string (strB (LM.val x.it))) ∧ Below W.heap.size W w') := fun W hW => value_any x.it hwf W hW
    clear hx hmem hjj hwf
    have HVX : Hid (encV x = .string (strB (LM.val x.it))) := rfl
    obtain ⟨pl, ⟨t, m, q⟩, a, n⟩ := x
    simp only at HVA HVX
    generalize strB (LM.val ⟨t, m, q⟩) = VV at *
    obtain ⟨T, hT⟩ : ∃ T, strB t = T := ⟨_, rfl⟩
    simp only [encE, hT] at ha' hrow HVA
    have HXX : Hid _ := hX
    have HB : Hid (Below w.heap.size w W) := hb
    have hKd : W.drew.heap[kl]? = some (.cells #[.slice (some ⟨g, 0, none⟩) pre.length l.length] 28) := hK
    have hGd : W.drew.heap[g]? = some (.cells cur 9) := hG
    obtain ⟨i0, if0⟩ := row1 hK
    obtain ⟨k0, k1, k2, k3, k4, kf⟩ := row5 hrow
    have hlay : Laid W.drew := (HW.out.on (below_dn hb 1)).laid
    have HC : Hid (cur.size = l.length ∧ cur.toList.take pre.length = pre.map encV ∧ pre.length ≤ l.length ∧ l.length ≤ maxLen ∧ w.heap.size ≤ g ∧ g ≠ kl ∧ pre.length + 1 ≤ l.length) := ⟨hGs, hGt, by omega, by unfold maxLen; omega, HD6.out.1, HD6.out.2.2.2.2.1, hlp⟩
    have hmx : Tryz.prog.follows .mixedOrders = true := by kernel_rfl
    have hi9 := HI9.out.1
    have hz1 := HI9.out.2.2.1
    rw [ha', ha0]
    simp only [List.setIfInBounds_toArray, List.set_cons_zero, List.set_cons_succ]
    clear ha' ha0 hX hb hpre hG hGs hGt hK hlp
    gi_wp2_with fail
    refine wpIn_region_any (by kernel_rfl) ?_
    change wpAnyIn _ _ _ _ _ _ _ _ _ W.drew
    refine wpAnyIn_ready (rs := [0, 1]) (by kernel_rfl) (by simp) ?_
    refine AllReadyIn.cons rfl (fun K hK => ?_) (AllReadyIn.cons rfl (fun K hK => ?_) AllReadyIn.nil)
    · go_simp
      refine hK _ _ ?_; clear hK K
      refine wpAnyIn_ready (rs := [1]) (by kernel_rfl) (by simp) ?_
      refine AllReadyIn.cons rfl (fun K hK => ?_) AllReadyIn.nil
      go_simp
      refine hK _ _ ?_; clear hK K
      refine wpAnyIn_ready (rs := [2]) (by kernel_rfl) (by simp) ?_
      refine AllReadyIn.cons rfl (fun K hK => ?_) AllReadyIn.nil
      go_simp
      refine hK _ _ ?_; clear hK K
      refine wpAnyIn_ready (rs := [3]) (by kernel_rfl) (by simp) ?_
      refine AllReadyIn.cons rfl (fun K hK => ?_) AllReadyIn.nil
      go_simp
      gi_wp2_with ((refine ⟨trivial, ?_⟩; gi_at_call 259; refine (CallsIn.inRound ll (callsIn_wide.2 (HVA.out _ hlay))).mono ?_; rintro e w5 ⟨rfl, hb5⟩; have hK5 := keep_row hKd hb5; have hG5 := keep_row hGd hb5; have HB5' : Hid (Below W.drew.heap.size W.drew w5) := hb5; have HK5a : Hid ((w5.alloc (.cells #[.string VV] 9)).heap[kl]? = some (.cells #[.slice (some ⟨g, 0, none⟩) pre.length l.length] 28)) := keep_row hK5 ((Below.refl _ w5).alloc (Nat.le_refl _) _); obtain ⟨i0, if0⟩ := row1 hK5; obtain ⟨i5, if5⟩ := row1 HK5a.out; clear hb5 hlay))
      refine wpAnyIn_ready (rs := [4]) (by kernel_rfl) (by simp) ?_
      refine AllReadyIn.cons rfl (fun K hK => ?_) AllReadyIn.nil
      go_simp
      refine hK _ _ ?_; clear hK K
      refine wpAnyIn_ready (rs := [5]) (by kernel_rfl) (by simp) ?_
      refine AllReadyIn.cons rfl (fun K hK => ?_) AllReadyIn.nil
      rw [if_pos (by rfl)]
      refine opIn_append_fits _ _ _ 28 rfl w.heap.size 9 i9 1 Tryz.underlying28 hi9 hz1 g pre.length l.length (pre.map encV) rfl (rown_mk HC.out.2.2.2.2.1 HC.out.2.2.1 HC.out.2.2.2.1 (keep_row hG5 ((Below.refl _ w5).alloc (Nat.le_refl _) _)) HC.out.1 HC.out.2.1) ⟨w5.heap.size, 0, none⟩ 1 1 [.string VV] rfl rfl (cell_one_new _ _ _) (by simp [Value.oneCell']) HC.out.2.2.2.2.2.2 ?_
      intro w7 hown7 hgrow7
      refine hK _ _ ?_; clear hK K
      have hK7 : w7.heap[kl]? = some (.cells #[.slice (some ⟨g, 0, none⟩) pre.length l.length] 28) := (hgrow7.block kl (row_lt HK5a.out) (fun x => by injection x with x; exact HC.out.2.2.2.2.2.1 x.symm)).trans HK5a.out
      obtain ⟨i7, if7⟩ := row1 hK7
      have HGR : Hid _ := hgrow7
      have HOW7 : Hid _ := hown7
      clear hgrow7 hown7 i0 if0 i5 if5
      refine wpAnyIn_ready (rs := [6]) (by kernel_rfl) (by simp) ?_
      refine AllReadyIn.cons rfl (fun K hK => ?_) AllReadyIn.nil
      go_simp
      refine hK _ _ ?_; clear hK K
      refine wpAnyIn_done (by kernel_rfl) ?_ _
      gi_wp2
      have hd := HD6.out
      have hbwx : Below W.heap.size W w5 := (below_dn (Below.refl _ W) 1).trans HB5'.out
      have hbwa : Below W.heap.size W (w5.alloc (.cells #[.string VV] 9)) := hbwx.alloc hbwx.size _
      refine ⟨((KA.of_below hbwa).trans (KA.grown HGR.out hd.2.1)).trans (KA.setCell _ _ _ hd.2.2.2.1), ?_, ?_, ?_, ?_⟩
      · obtain ⟨cur', q1, q2, q3⟩ := rown_form HOW7.out
        refine ⟨cur', (heap_setCell_other _ _ _ _ hd.2.2.2.2.1).trans q1, q2, ?_⟩
        rw [List.length_append, List.map_append]
        simpa [HVX.out] using q3
      · rw [heap_setCell_same _ _ _ _ _ _ hK7, List.length_append]; rfl
      · refine (heap_setCell_other _ _ _ _ hd.2.2.2.2.2.2).trans ?_
        exact (HGR.out.block bx (row_lt (keep_row HXX.out hbwa)) (fun x => by injection x with x; exact hd.2.2.2.2.2.1 x)).trans (keep_row HXX.out hbwa)
      · exact ((bel_to HB.out hbwa (Nat.le_refl _)).grown HGR.out (Nat.le_trans HB.out.size hbwa.size) (fun k hk => by injection hk with hk; rw [← hk]; exact hd.1)).setCell (p := ⟨kl, 0, none⟩) hd.2.2.1 _
    · go_simp
      refine hK _ _ ?_; clear hK K
      refine wpAnyIn_ready (rs := [0, 2]) (by kernel_rfl) (by simp) ?_
      refine AllReadyIn.cons rfl (fun K hK => ?_) (AllReadyIn.cons rfl (fun K hK => ?_) AllReadyIn.nil)
      · go_simp
        refine hK _ _ ?_; clear hK K
        refine wpAnyIn_ready (rs := [2]) (by kernel_rfl) (by simp) ?_
        refine AllReadyIn.cons rfl (fun K hK => ?_) AllReadyIn.nil
        go_simp
        refine hK _ _ ?_; clear hK K
        refine wpAnyIn_ready (rs := [3]) (by kernel_rfl) (by simp) ?_
        refine AllReadyIn.cons rfl (fun K hK => ?_) AllReadyIn.nil
        go_simp
        gi_wp2_with ((refine ⟨trivial, ?_⟩; gi_at_call 259; refine (CallsIn.inRound ll (callsIn_wide.2 (HVA.out _ hlay))).mono ?_; rintro e w5 ⟨rfl, hb5⟩; have hK5 := keep_row hKd hb5; have hG5 := keep_row hGd hb5; have HB5' : Hid (Below W.drew.heap.size W.drew w5) := hb5; have HK5a : Hid ((w5.alloc (.cells #[.string VV] 9)).heap[kl]? = some (.cells #[.slice (some ⟨g, 0, none⟩) pre.length l.length] 28)) := keep_row hK5 ((Below.refl _ w5).alloc (Nat.le_refl _) _); obtain ⟨i0, if0⟩ := row1 hK5; obtain ⟨i5, if5⟩ := row1 HK5a.out; clear hb5 hlay))
        refine wpAnyIn_ready (rs := [4]) (by kernel_rfl) (by simp) ?_
        refine AllReadyIn.cons rfl (fun K hK => ?_) AllReadyIn.nil
        go_simp
        refine hK _ _ ?_; clear hK K
        refine wpAnyIn_ready (rs := [5]) (by kernel_rfl) (by simp) ?_
        refine AllReadyIn.cons rfl (fun K hK => ?_) AllReadyIn.nil
        rw [if_pos (by rfl)]
        refine opIn_append_fits _ _ _ 28 rfl w.heap.size 9 i9 1 Tryz.underlying28 hi9 hz1 g pre.length l.length (pre.map encV) rfl (rown_mk HC.out.2.2.2.2.1 HC.out.2.2.1 HC.out.2.2.2.1 (keep_row hG5 ((Below.refl _ w5).alloc (Nat.le_refl _) _)) HC.out.1 HC.out.2.1) ⟨w5.heap.size, 0, none⟩ 1 1 [.string VV] rfl rfl (cell_one_new _ _ _) (by simp [Value.oneCell']) HC.out.2.2.2.2.2.2 ?_
        intro w7 hown7 hgrow7
        refine hK _ _ ?_; clear hK K
        have hK7 : w7.heap[kl]? = some (.cells #[.slice (some ⟨g, 0, none⟩) pre.length l.length] 28) := (hgrow7.block kl (row_lt HK5a.out) (fun x => by injection x with x; exact HC.out.2.2.2.2.2.1 x.symm)).trans HK5a.out
        obtain ⟨i7, if7⟩ := row1 hK7
        have HGR : Hid _ := hgrow7
        have HOW7 : Hid _ := hown7
        clear hgrow7 hown7 i0 if0 i5 if5
        refine wpAnyIn_ready (rs := [6]) (by kernel_rfl) (by simp) ?_
        refine AllReadyIn.cons rfl (fun K hK => ?_) AllReadyIn.nil
        go_simp
        refine hK _ _ ?_; clear hK K
        refine wpAnyIn_done (by kernel_rfl) ?_ _
        gi_wp2
        have hd := HD6.out
        have hbwx : Below W.heap.size W w5 := (below_dn (Below.refl _ W) 1).trans HB5'.out
        have hbwa : Below W.heap.size W (w5.alloc (.cells #[.string VV] 9)) := hbwx.alloc hbwx.size _
        refine ⟨((KA.of_below hbwa).trans (KA.grown HGR.out hd.2.1)).trans (KA.setCell _ _ _ hd.2.2.2.1), ?_, ?_, ?_, ?_⟩
        · obtain ⟨cur', q1, q2, q3⟩ := rown_form HOW7.out
          refine ⟨cur', (heap_setCell_other _ _ _ _ hd.2.2.2.2.1).trans q1, q2, ?_⟩
          rw [List.length_append, List.map_append]
          simpa [HVX.out] using q3
        · rw [heap_setCell_same _ _ _ _ _ _ hK7, List.length_append]; rfl
        · refine (heap_setCell_other _ _ _ _ hd.2.2.2.2.2.2).trans ?_
          exact (HGR.out.block bx (row_lt (keep_row HXX.out hbwa)) (fun x => by injection x with x; exact hd.2.2.2.2.2.1 x)).trans (keep_row HXX.out hbwa)
        · exact ((bel_to HB.out hbwa (Nat.le_refl _)).grown HGR.out (Nat.le_trans HB.out.size hbwa.size) (fun k hk => by injection hk with hk; rw [← hk]; exact hd.1)).setCell (p := ⟨kl, 0, none⟩) hd.2.2.1 _
      · go_simp
        refine hK _ _ ?_; clear hK K
        refine wpAnyIn_ready (rs := [0, 3]) (by kernel_rfl) (by simp) ?_
        refine AllReadyIn.cons rfl (fun K hK => ?_) (AllReadyIn.cons rfl (fun K hK => ?_) AllReadyIn.nil)
        · go_simp
          refine hK _ _ ?_; clear hK K
          refine wpAnyIn_ready (rs := [3]) (by kernel_rfl) (by simp) ?_
          refine AllReadyIn.cons rfl (fun K hK => ?_) AllReadyIn.nil
          go_simp
          gi_wp2_with ((refine ⟨trivial, ?_⟩; gi_at_call 259; refine (CallsIn.inRound ll (callsIn_wide.2 (HVA.out _ hlay))).mono ?_; rintro e w5 ⟨rfl, hb5⟩; have hK5 := keep_row hKd hb5; have hG5 := keep_row hGd hb5; have HB5' : Hid (Below W.drew.heap.size W.drew w5) := hb5; have HK5a : Hid ((w5.alloc (.cells #[.string VV] 9)).heap[kl]? = some (.cells #[.slice (some ⟨g, 0, none⟩) pre.length l.length] 28)) := keep_row hK5 ((Below.refl _ w5).alloc (Nat.le_refl _) _); obtain ⟨i0, if0⟩ := row1 hK5; obtain ⟨i5, if5⟩ := row1 HK5a.out; clear hb5 hlay))
          refine wpAnyIn_ready (rs := [4]) (by kernel_rfl) (by simp) ?_
          refine AllReadyIn.cons rfl (fun K hK => ?_) AllReadyIn.nil
          go_simp
          refine hK _ _ ?_; clear hK K
          refine wpAnyIn_ready (rs := [5]) (by kernel_rfl) (by simp) ?_
          refine AllReadyIn.cons rfl (fun K hK => ?_) AllReadyIn.nil
          rw [if_pos (by rfl)]
          refine opIn_append_fits _ _ _ 28 rfl w.heap.size 9 i9 1 Tryz.underlying28 hi9 hz1 g pre.length l.length (pre.map encV) rfl (rown_mk HC.out.2.2.2.2.1 HC.out.2.2.1 HC.out.2.2.2.1 (keep_row hG5 ((Below.refl _ w5).alloc (Nat.le_refl _) _)) HC.out.1 HC.out.2.1) ⟨w5.heap.size, 0, none⟩ 1 1 [.string VV] rfl rfl (cell_one_new _ _ _) (by simp [Value.oneCell']) HC.out.2.2.2.2.2.2 ?_
          intro w7 hown7 hgrow7
          refine hK _ _ ?_; clear hK K
          have hK7 : w7.heap[kl]? = some (.cells #[.slice (some ⟨g, 0, none⟩) pre.length l.length] 28) := (hgrow7.block kl (row_lt HK5a.out) (fun x => by injection x with x; exact HC.out.2.2.2.2.2.1 x.symm)).trans HK5a.out
          obtain ⟨i7, if7⟩ := row1 hK7
          have HGR : Hid _ := hgrow7
          have HOW7 : Hid _ := hown7
          clear hgrow7 hown7 i0 if0 i5 if5
          refine wpAnyIn_ready (rs := [6]) (by kernel_rfl) (by simp) ?_
          refine AllReadyIn.cons rfl (fun K hK => ?_) AllReadyIn.nil
          go_simp
          refine hK _ _ ?_; clear hK K
          refine wpAnyIn_done (by kernel_rfl) ?_ _
          gi_wp2
          have hd := HD6.out
          have hbwx : Below W.heap.size W w5 := (below_dn (Below.refl _ W) 1).trans HB5'.out
          have hbwa : Below W.heap.size W (w5.alloc (.cells #[.string VV] 9)) := hbwx.alloc hbwx.size _
          refine ⟨((KA.of_below hbwa).trans (KA.grown HGR.out hd.2.1)).trans (KA.setCell _ _ _ hd.2.2.2.1), ?_, ?_, ?_, ?_⟩
          · obtain ⟨cur', q1, q2, q3⟩ := rown_form HOW7.out
            refine ⟨cur', (heap_setCell_other _ _ _ _ hd.2.2.2.2.1).trans q1, q2, ?_⟩
            rw [List.length_append, List.map_append]
            simpa [HVX.out] using q3
          · rw [heap_setCell_same _ _ _ _ _ _ hK7, List.length_append]; rfl
          · refine (heap_setCell_other _ _ _ _ hd.2.2.2.2.2.2).trans ?_
            exact (HGR.out.block bx (row_lt (keep_row HXX.out hbwa)) (fun x => by injection x with x; exact hd.2.2.2.2.2.1 x)).trans (keep_row HXX.out hbwa)
          · exact ((bel_to HB.out hbwa (Nat.le_refl _)).grown HGR.out (Nat.le_trans HB.out.size hbwa.size) (fun k hk => by injection hk with hk; rw [← hk]; exact hd.1)).setCell (p := ⟨kl, 0, none⟩) hd.2.2.1 _
        · go_simp
          gi_wp2_with ((refine ⟨trivial, ?_⟩; gi_at_call 259; refine (CallsIn.inRound ll (callsIn_wide.2 (HVA.out _ hlay))).mono ?_; rintro e w5 ⟨rfl, hb5⟩; have hK5 := keep_row hKd hb5; have hG5 := keep_row hGd hb5; have HB5' : Hid (Below W.drew.heap.size W.drew w5) := hb5; have HK5a : Hid ((w5.alloc (.cells #[.string VV] 9)).heap[kl]? = some (.cells #[.slice (some ⟨g, 0, none⟩) pre.length l.length] 28)) := keep_row hK5 ((Below.refl _ w5).alloc (Nat.le_refl _) _); obtain ⟨i0, if0⟩ := row1 hK5; obtain ⟨i5, if5⟩ := row1 HK5a.out; clear hb5 hlay))
          refine wpAnyIn_ready (rs := [0, 4]) (by kernel_rfl) (by simp) ?_
          refine AllReadyIn.cons rfl (fun K hK => ?_) (AllReadyIn.cons rfl (fun K hK => ?_) AllReadyIn.nil)
          · go_simp
            refine hK _ _ ?_; clear hK K
            refine wpAnyIn_ready (rs := [4]) (by kernel_rfl) (by simp) ?_
            refine AllReadyIn.cons rfl (fun K hK => ?_) AllReadyIn.nil
            go_simp
            refine hK _ _ ?_; clear hK K
            refine wpAnyIn_ready (rs := [5]) (by kernel_rfl) (by simp) ?_
            refine AllReadyIn.cons rfl (fun K hK => ?_) AllReadyIn.nil
            rw [if_pos (by rfl)]
            refine opIn_append_fits _ _ _ 28 rfl w.heap.size 9 i9 1 Tryz.underlying28 hi9 hz1 g pre.length l.length (pre.map encV) rfl (rown_mk HC.out.2.2.2.2.1 HC.out.2.2.1 HC.out.2.2.2.1 (keep_row hG5 ((Below.refl _ w5).alloc (Nat.le_refl _) _)) HC.out.1 HC.out.2.1) ⟨w5.heap.size, 0, none⟩ 1 1 [.string VV] rfl rfl (cell_one_new _ _ _) (by simp [Value.oneCell']) HC.out.2.2.2.2.2.2 ?_
            intro w7 hown7 hgrow7
            refine hK _ _ ?_; clear hK K
            have hK7 : w7.heap[kl]? = some (.cells #[.slice (some ⟨g, 0, none⟩) pre.length l.length] 28) := (hgrow7.block kl (row_lt HK5a.out) (fun x => by injection x with x; exact HC.out.2.2.2.2.2.1 x.symm)).trans HK5a.out
            obtain ⟨i7, if7⟩ := row1 hK7
            have HGR : Hid _ := hgrow7
            have HOW7 : Hid _ := hown7
            clear hgrow7 hown7 i0 if0 i5 if5
            refine wpAnyIn_ready (rs := [6]) (by kernel_rfl) (by simp) ?_
            refine AllReadyIn.cons rfl (fun K hK => ?_) AllReadyIn.nil
            go_simp
            refine hK _ _ ?_; clear hK K
            refine wpAnyIn_done (by kernel_rfl) ?_ _
            gi_wp2
            have hd := HD6.out
            have hbwx : Below W.heap.size W w5 := (below_dn (Below.refl _ W) 1).trans HB5'.out
            have hbwa : Below W.heap.size W (w5.alloc (.cells #[.string VV] 9)) := hbwx.alloc hbwx.size _
            refine ⟨((KA.of_below hbwa).trans (KA.grown HGR.out hd.2.1)).trans (KA.setCell _ _ _ hd.2.2.2.1), ?_, ?_, ?_, ?_⟩
            · obtain ⟨cur', q1, q2, q3⟩ := rown_form HOW7.out
              refine ⟨cur', (heap_setCell_other _ _ _ _ hd.2.2.2.2.1).trans q1, q2, ?_⟩
              rw [List.length_append, List.map_append]
              simpa [HVX.out] using q3
            · rw [heap_setCell_same _ _ _ _ _ _ hK7, List.length_append]; rfl
            · refine (heap_setCell_other _ _ _ _ hd.2.2.2.2.2.2).trans ?_
              exact (HGR.out.block bx (row_lt (keep_row HXX.out hbwa)) (fun x => by injection x with x; exact hd.2.2.2.2.2.1 x)).trans (keep_row HXX.out hbwa)
            · exact ((bel_to HB.out hbwa (Nat.le_refl _)).grown HGR.out (Nat.le_trans HB.out.size hbwa.size) (fun k hk => by injection hk with hk; rw [← hk]; exact hd.1)).setCell (p := ⟨kl, 0, none⟩) hd.2.2.1 _
          · go_simp
            refine hK _ _ ?_; clear hK K
            refine wpAnyIn_ready (rs := [0]) (by kernel_rfl) (by simp) ?_
            refine AllReadyIn.cons rfl (fun K hK => ?_) AllReadyIn.nil
            go_simp
            refine hK _ _ ?_; clear hK K
            refine wpAnyIn_ready (rs := [5]) (by kernel_rfl) (by simp) ?_
            refine AllReadyIn.cons rfl (fun K hK => ?_) AllReadyIn.nil
            rw [if_pos (by rfl)]
            refine opIn_append_fits _ _ _ 28 rfl w.heap.size 9 i9 1 Tryz.underlying28 hi9 hz1 g pre.length l.length (pre.map encV) rfl (rown_mk HC.out.2.2.2.2.1 HC.out.2.2.1 HC.out.2.2.2.1 (keep_row hG5 ((Below.refl _ w5).alloc (Nat.le_refl _) _)) HC.out.1 HC.out.2.1) ⟨w5.heap.size, 0, none⟩ 1 1 [.string VV] rfl rfl (cell_one_new _ _ _) (by simp [Value.oneCell']) HC.out.2.2.2.2.2.2 ?_
            intro w7 hown7 hgrow7
            refine hK _ _ ?_; clear hK K
            have hK7 : w7.heap[kl]? = some (.cells #[.slice (some ⟨g, 0, none⟩) pre.length l.length] 28) := (hgrow7.block kl (row_lt HK5a.out) (fun x => by injection x with x; exact HC.out.2.2.2.2.2.1 x.symm)).trans HK5a.out
            obtain ⟨i7, if7⟩ := row1 hK7
            have HGR : Hid _ := hgrow7
            have HOW7 : Hid _ := hown7
            clear hgrow7 hown7 i0 if0 i5 if5
            refine wpAnyIn_ready (rs := [6]) (by kernel_rfl) (by simp) ?_
            refine AllReadyIn.cons rfl (fun K hK => ?_) AllReadyIn.nil
            go_simp
            refine hK _ _ ?_; clear hK K
            refine wpAnyIn_done (by kernel_rfl) ?_ _
            gi_wp2
            have hd := HD6.out
            have hbwx : Below W.heap.size W w5 := (below_dn (Below.refl _ W) 1).trans HB5'.out
            have hbwa : Below W.heap.size W (w5.alloc (.cells #[.string VV] 9)) := hbwx.alloc hbwx.size _
            refine ⟨((KA.of_below hbwa).trans (KA.grown HGR.out hd.2.1)).trans (KA.setCell _ _ _ hd.2.2.2.1), ?_, ?_, ?_, ?_⟩
            · obtain ⟨cur', q1, q2, q3⟩ := rown_form HOW7.out
              refine ⟨cur', (heap_setCell_other _ _ _ _ hd.2.2.2.2.1).trans q1, q2, ?_⟩
              rw [List.length_append, List.map_append]
              simpa [HVX.out] using q3
            · rw [heap_setCell_same _ _ _ _ _ _ hK7, List.length_append]; rfl
            · refine (heap_setCell_other _ _ _ _ hd.2.2.2.2.2.2).trans ?_
              exact (HGR.out.block bx (row_lt (keep_row HXX.out hbwa)) (fun x => by injection x with x; exact hd.2.2.2.2.2.1 x)).trans (keep_row HXX.out hbwa)
            · exact ((bel_to HB.out hbwa (Nat.le_refl _)).grown HGR.out (Nat.le_trans HB.out.size hbwa.size) (fun k hk => by injection hk with hk; rw [← hk]; exact hd.1)).setCell (p := ⟨kl, 0, none⟩) hd.2.2.1 _
  case done =>
    rintro D W hD _ ⟨⟨cur, hG, hGs, hGt⟩, hK, hX, hb⟩ hDr
    rw [ha0]
    rw [HLL.out] at hGt hK
    rw [HVL.out] at hGt
    obtain ⟨i0, if0⟩ := row1 hK
    have HG : Hid _ := hG
    have HGT : Hid _ := hGt
    have HGS : Hid _ := hGs
    have HDR : Hid _ := hDr
    have HB : Hid (Below w.heap.size w W) := hb
    have HLM : Hid (l.length ≤ maxLen) := by show _ ≤ _; unfold maxLen; omega
    clear ha0 hX hb hDr hK hG hGt hGs
    refine wpB_then (n := 10) ?_
    gi_wp2
    refine wpB_of (n := 10) ?_
    gi_wp2
    refine ⟨by simp, .inl ⟨_, _, rfl, run_takeDeferred HDR.out, ?_⟩⟩
    have h1 : g ≠ D := by rintro rfl; have := HDR.out; rw [HG.out] at this; cases this
    refine ⟨.tuple #[.slice (some ⟨g, 0, none⟩) l.length l.length, .int .i64 0], ?_, ⟨g, rfl, rown_mk HD6.out.1 (Nat.le_refl _) HLM.out (put_keep HG.out h1) HGS.out (by simpa using HGT.out)⟩, put_below HB.out (by have := HB6.out.size; omega)⟩
    simp [results, Tryz.results305, go_sem]
end Go.Proofs.YtfkcpilkhdbpoaaGreatDoor.S6
namespace Go.Proofs.YtfkcpilkhdbpoaaGreatDoor.S6
open Go.RowKit
set_option linter.unusedVariables false
attribute [local go_sem] Oper.semAt_some
/-- entry k is one that is sought. -/
def Hit (from_ step : Int) (it : LM.Item) (l : List LM.Item) (k : Nat) : Prop := from_ ≤ (k : Int) ∧ ((k : Int) - from_) % step = 0 ∧ l[k]? = some it
def FindIs (l : List LM.Item) (from_ step : Int) (it : LM.Item) (r : Int) : Prop :=
  (∃ k : Nat, r = (k : Int) ∧ Hit from_ step it l k ∧ ∀ j, j < k → ¬ Hit from_ step it l j) ∨ (r = -1 ∧ ∀ j, j < l.length → ¬ Hit from_ step it l j)
theorem res_Find {W : World} {S E : Nat} {z x : Int} {tmps : Array Value} (h2 : tmps[8]? = some (.pointer (some ⟨S, 0, none⟩))) (h3 : tmps[9]? = some (.pointer (some ⟨E, 0, none⟩)))
    (hS : W.heap[S]? = some (.cells #[.int .i64 z] 3)) (hE : W.heap[E]? = some (.cells #[.int .i64 x] 24)) :
    (results Tryz.f572 tmps).run Tryz.prog W = .ok (.tuple #[.int .i64 z, .int .i64 x]) W := by
  obtain ⟨l0, lf⟩ := row1 hS
  obtain ⟨e0, ef⟩ := row1 hE
  simp [results, Tryz.results572, go_sem, l0, e0, h2, h3]
set_option maxHeartbeats 2000000 in
set_option maxRecDepth 100000 in
theorem Find_ok (p : ByteArray) (l : List LM.Item) (hpk : LM.Pk p.data.toList l) (F S : Int) (hF : 0 ≤ F ∧ F ≤ 9223372036854775807) (hS : 1 ≤ S ∧ S ≤ 9223372036854775807) (x : ByteArray) (hx : x.size ≤ 281474976710656) (w : World) (hw : Lay w) :
    Calls Tryz.prog 572 #[.string p, .int .i64 F, .int .i64 S, .string x] w fun e w' => (∃ r, e = .returned (.tuple #[.int .i64 r, .int .i64 0]) ∧ FindIs l F S (LM.itemOf x.data.toList) r) ∧ Below w.heap.size w w' := by
  have HW : Hid (Lay w) := hw
  have HPK : Hid _ := hpk
  have hl := hpk.wf
  have hlen := hpk.len
  have hs : LM.bsum l ≤ 1073741824 := by have := hpk.size; rw [hpk.eq, LM.build_len] at this; omega
  have HRH : Hid (∀ W, Lay W → Calls Tryz.prog 257 #[.string p] W (rdP p W)) := fun W hW => read_any p (by have := hpk.size; rw [list_len] at this; omega) W hW
  obtain ⟨⟨it0, it1, it2⟩, hit⟩ : ∃ it, LM.itemOf x.data.toList = it := ⟨_, rfl⟩
  have HIT : Hid (∀ W, Laid W → Calls Tryz.prog 298 #[.string x] W fun e w' => e = .returned (.agg #[.string (strB it0), .int .i64 it1, .bool it2]) ∧ Below W.heap.size W w') := fun W hW => by
    have := itemOf_any x hx W hW
    rw [hit] at this; exact this
  rw [hit]
  have hd1 : decide (F < 0) = false := by simp; omega
  have hd2 : decide (S < 1) = false := by simp; omega
  have HF : Hid _ := hF
  have HSS : Hid _ := hS
  clear hw hpk hit hF hS
  refine calls_of_wpB (n := 10) Tryz.func572 rfl ?_
  simp only [Tryz.ntmps572, List.size_toArray, List.length_cons, List.length_nil, Nat.reduceAdd, Nat.reduceSub, Array.replicate_succ, Array.replicate_zero, List.push_toArray, List.append_toArray, List.nil_append, List.cons_append]
  refine wpB_then (n := 10) ?_
  gi_wp2
  obtain ⟨W0, hW0⟩ : ∃ W0, W0 = (((w.alloc (.cells #[.int .i64 F] 3)).alloc (.cells #[.int .i64 S] 3)).alloc (.cells #[.int .i64 0] 3)).alloc (.cells #[.int .i64 0] 24) := ⟨_, rfl⟩
  obtain ⟨kF, hkF⟩ : ∃ kF, w.heap.size = kF := ⟨_, rfl⟩
  have HB0 : Hid (Below w.heap.size w W0) := by rw [hW0]; exact ((((Below.refl _ w).alloc (Nat.le_refl _) _).alloc (by simp) _).alloc (by simp; omega) _).alloc (by simp; omega) _
  have HF0 : Hid (W0.heap[kF]? = some (.cells #[.int .i64 F] 3)) := by
    rw [hW0, ← hkF]; exact keep_row (keep_row (keep_row (one_alloc w _) ((Below.refl _ _).alloc (Nat.le_refl _) _)) ((Below.refl _ _).alloc (Nat.le_refl _) _)) ((Below.refl _ _).alloc (Nat.le_refl _) _)
  have HS0 : Hid (W0.heap[kF + 1]? = some (.cells #[.int .i64 S] 3)) := by
    rw [hW0, ← hkF]; refine keep_row (keep_row ?_ ((Below.refl _ _).alloc (Nat.le_refl _) _)) ((Below.refl _ _).alloc (Nat.le_refl _) _)
    have := one_alloc (w.alloc (.cells #[.int .i64 F] 3)) (.cells #[.int .i64 S] 3)
    rwa [World.size_alloc] at this
  have HR0 : Hid (W0.heap[kF + 1 + 1]? = some (.cells #[.int .i64 0] 3)) := by
    rw [hW0, ← hkF]; refine keep_row ?_ ((Below.refl _ _).alloc (Nat.le_refl _) _)
    have := one_alloc ((w.alloc (.cells #[.int .i64 F] 3)).alloc (.cells #[.int .i64 S] 3)) (.cells #[.int .i64 0] 3)
    rwa [World.size_alloc, World.size_alloc] at this
  have HE0 : Hid (W0.heap[kF + 1 + 1 + 1]? = some (.cells #[.int .i64 0] 24)) := by
    rw [hW0, ← hkF]; have := one_alloc (((w.alloc (.cells #[.int .i64 F] 3)).alloc (.cells #[.int .i64 S] 3)).alloc (.cells #[.int .i64 0] 3)) (.cells #[.int .i64 0] 24)
    rwa [World.size_alloc, World.size_alloc, World.size_alloc] at this
  rw [← hW0]
  simp only [hkF]
  have HKF : Hid _ := hkF
  clear hW0 hkF
  refine wpB_then (n := 10) ?_
  gi_wp2_with fail
  refine ⟨trivial, (callsIn_wide.2 (HRH.out _ (HW.out.on HB0.out))).mono ?_⟩
  rintro e w1 ⟨⟨l', hl', rfl⟩ | ⟨hno, rfl⟩, hb1⟩
  case inr => exact absurd HPK.out (hno l)
  have he := HPK.out.uniq hl'
  subst he
  have HB1 : Hid (Below w.heap.size w w1) := bel_to HB0.out hb1 (Nat.le_refl _)
  have HF1 : Hid _ := keep_row HF0.out hb1
  have HS1 : Hid _ := keep_row HS0.out hb1
  have HR1 : Hid _ := keep_row HR0.out hb1
  have HE1 : Hid _ := keep_row HE0.out hb1
  have hBs : (strB (LM.bodyOf l)).size = LM.bsum l := by rw [strB_size, LM.bodyOf_len]
  have HBL : Hid ((strB (LM.bodyOf l)).data.toList = LM.bodyOf l) := strB_list _
  clear hb1 hl'
  generalize strB (LM.bodyOf l) = Bo at *
  gi_wp2
  obtain ⟨kp, hkp⟩ : ∃ kp, w1.heap.size = kp := ⟨_, rfl⟩
  obtain ⟨W1, hW1⟩ : ∃ W1, W1 = w1.alloc (.cells #[.string Bo, .int .i64 (l.length : Int)] 349) := ⟨_, rfl⟩
  rw [← hW1, hkp]
  have hbw : Below w1.heap.size w1 W1 := by rw [hW1]; exact (Below.refl _ _).alloc (Nat.le_refl _) _
  have HB2 : Hid (Below w.heap.size w W1) := bel_to HB1.out hbw (Nat.le_refl _)
  have HP2 : Hid (W1.heap[kp]? = some (.cells #[.string Bo, .int .i64 (l.length : Int)] 349)) := by rw [hW1, ← hkp]; exact one_alloc w1 _
  have HF2 : Hid _ := keep_row HF1.out hbw
  have HS2 : Hid _ := keep_row HS1.out hbw
  have HR2 : Hid _ := keep_row HR1.out hbw
  have HE2 : Hid _ := keep_row HE1.out hbw
  clear hW1 hkp hbw
  refine wpB_then (n := 10) ?_
  gi_wp2
  obtain ⟨f0, ff⟩ := row1 HF2.out
  obtain ⟨s0, sf⟩ := row1 HS2.out
  refine wpB_then (n := 10) ?_
  gi_wp2
  clear f0 ff s0 sf
  refine wpB_then (n := 10) ?_
  obtain ⟨I0, hI0⟩ : ∃ I0, strB it0 = I0 := ⟨_, rfl⟩
  rw [hI0] at HIT
  gi_wp2_with fail
  refine ⟨trivial, (callsIn_wide.2 (HIT.out _ (HW.out.on HB2.out).laid)).mono ?_⟩
  rintro e w3 ⟨rfl, hb3⟩
  have HB3 : Hid (Below w.heap.size w w3) := bel_to HB2.out hb3 (Nat.le_refl _)
  have HP3 : Hid _ := keep_row HP2.out hb3
  have HF3 : Hid _ := keep_row HF2.out hb3
  have HS3 : Hid _ := keep_row HS2.out hb3
  have HR3 : Hid _ := keep_row HR2.out hb3
  have HE3 : Hid _ := keep_row HE2.out hb3
  clear hb3
  gi_wp2
  obtain ⟨ks, hks⟩ : ∃ ks, w3.heap.size = ks := ⟨_, rfl⟩
  obtain ⟨W3, hW3⟩ : ∃ W3, W3 = w3.alloc (.cells #[.string I0, .int .i64 it1, .bool it2] 385) := ⟨_, rfl⟩
  rw [← hW3, hks]
  have hbw : Below w3.heap.size w3 W3 := by rw [hW3]; exact (Below.refl _ _).alloc (Nat.le_refl _) _
  have HB4 : Hid (Below w.heap.size w W3) := bel_to HB3.out hbw (Nat.le_refl _)
  have HK4 : Hid (W3.heap[ks]? = some (.cells #[.string I0, .int .i64 it1, .bool it2] 385)) := by rw [hW3, ← hks]; exact one_alloc w3 _
  have HP4 : Hid _ := keep_row HP3.out hbw
  have HF4 : Hid _ := keep_row HF3.out hbw
  have HS4 : Hid _ := keep_row HS3.out hbw
  have HR4 : Hid _ := keep_row HR3.out hbw
  have HE4 : Hid _ := keep_row HE3.out hbw
  clear hW3 hks hbw
  obtain ⟨p0, p1, pf⟩ := prow2 HP4.out
  refine wpB_seq (wpB_then (n := 10) ?_)
  gi_wp2_with fail
  refine ⟨trivial, (callsIn_wide.2 (fwd_any Bo (l.length : Int) _)).mono ?_⟩
  rintro e w5 ⟨rfl, hw5⟩
  obtain ⟨bx, hbx⟩ : ∃ bx, W3.heap.size = bx := ⟨_, rfl⟩
  rw [hbx]
  have HX5 : Hid (w5.heap[bx]? = some (.cells #[.string Bo, .int .i64 (l.length : Int)] 349)) := by rw [hw5, ← hbx]; exact one_alloc W3 _
  have hbw : Below W3.heap.size W3 w5 := by rw [hw5]; exact (Below.refl _ _).alloc (Nat.le_refl _) _
  have HB5 : Hid (Below w.heap.size w w5) := bel_to HB4.out hbw (Nat.le_refl _)
  have HK5 : Hid _ := keep_row HK4.out hbw
  have HF5 : Hid _ := keep_row HF4.out hbw
  have HS5 : Hid _ := keep_row HS4.out hbw
  have HR5 : Hid _ := keep_row HR4.out hbw
  have HE5 : Hid _ := keep_row HE4.out hbw
  clear hw5 hbw hbx p0 p1 pf
  gi_wp2
  refine wpB_block ?_
  have hseq := fwd_seq 9 Bo (l.length : Int) bx (l.length + LM.bsum l + 1) w5.heap.size (by omega) (by omega)
  rw [HBL.out, LM.parse_body l _ 0 0 hl (by omega)] at hseq
  have HSQ : Hid _ := hseq
  have HLT : Hid (kF + 1 + 1 + 1 < w5.heap.size) := row_lt HE5.out
  clear hseq
  refine WpB_act (fun a0 ha0 => ?_)
  refine wpB_range (n := 10) (α := LM.Ent) (encs := encs) (L := LM.entsFrom 0 0 l) (bad := false) (pch := pch) (box := Box Bo (l.length : Int) bx) Tryz.func572 (gf := 320) (lb := #[.pointer (some ⟨bx, 0, none⟩)]) (by rw [ha0]; rfl) (enters_of Tryz.func320 (by kernel_rfl) rfl) HSQ.out (fun _ => rfl)
    (fun pre W => W.heap[kF]? = some (.cells #[.int .i64 F] 3) ∧ W.heap[kF + 1]? = some (.cells #[.int .i64 S] 3) ∧ W.heap[kF + 1 + 1]? = some (.cells #[.int .i64 0] 3) ∧ W.heap[kF + 1 + 1 + 1]? = some (.cells #[.int .i64 0] 24) ∧ W.heap[ks]? = some (.cells #[.string I0, .int .i64 it1, .bool it2] 385) ∧ W.heap[bx]? = some (.cells #[.string Bo, .int .i64 (l.length : Int)] 349) ∧ Below w.heap.size w W ∧ ∀ j, j < pre.length → ¬ Hit F S ⟨it0, it1, it2⟩ l j)
    (fun cd pre W => cd = .ret ∧ (∃ r, FindIs l F S ⟨it0, it1, it2⟩ r ∧ W.heap[kF + 1 + 1]? = some (.cells #[.int .i64 r] 3)) ∧ W.heap[kF + 1 + 1 + 1]? = some (.cells #[.int .i64 0] 24) ∧ Below w.heap.size w W)
    (fun _ => False)
    ?hI ?hIx (fun _ _ _ _ hs _ _ => hs) ?hbox ?h0
    (fun (x : LM.Ent) (a' : Act) (W : World) => ∃ kk : Nat, a' = { tmps := (((a0.tmps.setIfInBounds 33 (.int .i64 (x.place : Int))).setIfInBounds 34 (encE x.it x.begin x.span)).setIfInBounds 13 (.int .i64 (x.place : Int))).setIfInBounds 14 (.pointer (some ⟨kk, 0, none⟩)), defers := [] } ∧ W.heap[kk]? = some (.cells #[.string (strB x.it.txt), .int .i64 x.it.num, .bool x.it.isN, .int .i64 (x.begin : Int), .int .i64 (x.span : Int)] 387)) ?hAx ?assign ?body ?done ?stop ?pan
  case hI =>
    rintro s A B row ⟨h1, h2, h3, h4, h5, h6, h7, h8⟩ hg hr
    exact ⟨own_row h1 hg hr, own_row h2 hg hr, own_row h3 hg hr, own_row h4 hg hr, own_row h5 hg hr, own_row h6 hg hr, ownFrom_below (β := Unit) (Nat.le_refl _) HB5.out.size () A B row h7 hg hr, h8⟩
  case hIx =>
    rintro cd s A B row ⟨h1, ⟨z, h2, h2'⟩, h3, h4⟩ hg hr
    exact ⟨h1, ⟨z, h2, own_row h2' hg hr⟩, own_row h3 hg hr, ownFrom_below (β := Unit) (Nat.le_refl _) HB5.out.size () A B row h4 hg hr⟩
  case hbox =>
    rintro pre W ⟨h1, h2, h3, h4, h5, h6, h7, h8⟩
    exact ⟨h6, (HW.out.on h7).wid⟩
  case h0 => exact ⟨HF5.out, HS5.out, HR5.out, HE5.out, HK5.out, HX5.out, HB5.out, by simp⟩
  case hAx =>
    rintro x a' s A B row ⟨kk, h1, h2⟩ hg hr
    exact ⟨kk, h1, own_row h2 hg hr⟩
  case pan => intro D W _ h; rcases h with h | ⟨h, _⟩; exact h.elim; cases h
  case assign =>
    intro ll pre x W K hpre hI hK
    have HKK : Hid _ := hK
    clear hK hI
    obtain ⟨pl, ⟨t, m, q⟩, a, n⟩ := x
    obtain ⟨T, hT⟩ : ∃ T, strB t = T := ⟨_, rfl⟩
    have HA0 : Hid _ := ha0
    rw [ha0]
    simp only [encs, encE, hT, List.zip_toArray, List.zip_cons_cons, List.zip_nil_right, List.foldl_toArray, List.foldl_cons, List.foldl_nil, List.setIfInBounds_toArray, List.set_cons_zero, List.set_cons_succ]
    clear ha0
    gi_wp2
    refine HKK.out _ _ ((Below.refl _ W).alloc (Nat.le_refl _) _) ⟨W.heap.size, ?_, ?_⟩
    · rw [HA0.out, ← hT]; rfl
    · rw [hT]; exact one_alloc W _
  case body =>
    rintro ll pre x a' W hll hpre ⟨hF, hS, hR, hE, hK, hX, hb, hni⟩ ⟨kk, ha', hrow⟩
    have hget := ents_pre hpre
    have hlp : pre.length < l.length := by have := LM.pre_len hpre; rwa [LM.ents_len] at this
    rw [LM.ents_get l 0 0 pre.length hlp] at hget
    have hxx := (Option.some.inj hget).symm
    simp only [Nat.zero_add] at hxx
    have hxi : l[pre.length]? = some x.it := by rw [hxx, List.getElem?_eq_getElem hlp]
    have hxp : x.place = pre.length := by rw [hxx]
    clear hxx hget
    obtain ⟨pl, ⟨t, m, q⟩, a, n⟩ := x
    simp only at hxp hxi
    subst hxp
    obtain ⟨T, hT⟩ : ∃ T, strB t = T := ⟨_, rfl⟩
    simp only [encE, hT] at ha' hrow
    have HLS : Hid (pre.length < l.length) := hlp
    have HFR : Hid _ := hF
    have HSR : Hid _ := hS
    have HRR : Hid _ := hR
    have HER : Hid _ := hE
    have HKR : Hid _ := hK
    have HXX : Hid _ := hX
    have HB : Hid (Below w.heap.size w W) := hb
    have HNI : Hid _ := hni
    have HXI : Hid _ := hxi
    obtain ⟨f0, ff⟩ := row1 hF
    obtain ⟨s0, sf⟩ := row1 hS
    obtain ⟨r0, rf⟩ := row1 hR
    obtain ⟨e0, ef⟩ := row1 hE
    obtain ⟨q0, q1, q2, qf⟩ := row3 hK
    obtain ⟨k0, k1, k2, k3, k4, kf⟩ := row5 hrow
    rw [ha', ha0]
    simp only [List.setIfInBounds_toArray, List.set_cons_zero, List.set_cons_succ]
    clear ha' ha0 hF hS hR hE hK hX hb hpre hni hxi
    have HEQ : Hid (Hit F S ⟨it0, it1, it2⟩ l pre.length ↔ (F ≤ (pre.length : Int) ∧ (wrap64 ((pre.length : Int) - F)).tmod S = 0 ∧ T.toList = I0.toList ∧ m = it1 ∧ q = it2)) := by
      have hFF := HF.out
      have hlp := HLS.out
      have hw : F ≤ (pre.length : Int) → wrap64 ((pre.length : Int) - F) = (pre.length : Int) - F := fun h => by unfold wrap64; omega
      have htt : T.toList = I0.toList ↔ t = it0 := by
        rw [ByteArray.toList_eq, ByteArray.toList_eq, ← hT, ← hI0, strB_list, strB_list]
      show _ ↔ _
      unfold Hit
      rw [HXI.out, htt]
      constructor
      · rintro ⟨h1, h2, h3⟩
        injection h3 with h3
        injection h3 with e1 e2 e3
        refine ⟨h1, ?_, e1, e2, e3⟩
        rw [hw h1, Int.tmod_eq_emod_of_nonneg (by omega)]; exact h2
      · rintro ⟨h1, h2, rfl, rfl, rfl⟩
        refine ⟨h1, ?_, rfl⟩
        rw [hw h1, Int.tmod_eq_emod_of_nonneg (by omega)] at h2; exact h2
    gi_wp2
    all_goals first
      | exact absurd ‹S = 0› (by have := HSS.out; omega)
      | (refine ⟨KA.refl _ _, HFR.out, HSR.out, HRR.out, HER.out, HKR.out, HXX.out, HB.out, fun j hj => ?_⟩
         rw [List.length_append] at hj
         by_cases hjj : j = pre.length
         · subst hjj
           intro hh
           obtain ⟨h1, h2, h3, h4, h5⟩ := HEQ.out.1 hh
           first | contradiction | omega
         · exact HNI.out j (by simp at hj; omega))
      | (have hHit := HEQ.out.2 ⟨by assumption, by assumption, by assumption, by first | rfl | assumption, by first | rfl | assumption⟩
         have hlt3 := HLT.out
         have hkf := HKF.out
         refine ⟨(KA.setCell _ _ _ (by show kF + 1 + 1 < w5.heap.size; omega)).trans (KA.setCell _ _ _ (by show kF + 1 + 1 + 1 < w5.heap.size; omega)), rfl, ⟨(pre.length : Int), Or.inl ⟨pre.length, rfl, hHit, HNI.out⟩, ?_⟩, ?_, ?_⟩
         · rw [heap_setCell_other _ _ _ _ (show kF + 1 + 1 ≠ kF + 1 + 1 + 1 by omega), heap_setCell_same _ _ _ _ _ _ HRR.out]; rfl
         · rw [heap_setCell_same _ _ _ _ _ _ ((heap_setCell_other _ _ _ _ (show kF + 1 + 1 + 1 ≠ kF + 1 + 1 by omega)).trans HER.out)]; rfl
         · exact (HB.out.setCell (p := ⟨kF + 1 + 1, 0, none⟩) (by show w.heap.size ≤ kF + 1 + 1; omega) _).setCell (p := ⟨kF + 1 + 1 + 1, 0, none⟩) (by show w.heap.size ≤ kF + 1 + 1 + 1; omega) _)
  case stop =>
    rintro D cd pre W hD hpre ⟨rfl, ⟨z, hz, hr⟩, he, hb⟩ hDr
    rw [ha0]
    refine wpB_of (n := 10) ?_
    gi_wp2
    refine ⟨by simp, .inl ⟨_, _, rfl, run_takeDeferred hDr, ?_⟩⟩
    have h1 : kF + 1 + 1 ≠ D := by rintro rfl; rw [hr] at hDr; cases hDr
    have h2 : kF + 1 + 1 + 1 ≠ D := by rintro rfl; rw [he] at hDr; cases hDr
    exact ⟨_, res_Find rfl rfl (put_keep hr h1) (put_keep he h2), ⟨z, rfl, hz⟩, by rw [← HKF.out]; exact put_below hb (by have := HB5.out.size; omega)⟩
  case done =>
    rintro D W hD _ ⟨hF, hS, hR, hE, hK, hX, hb, hni⟩ hDr
    rw [ha0]
    rw [LM.ents_len] at hni
    have HFI : Hid (FindIs l F S ⟨it0, it1, it2⟩ (-1)) := Or.inr ⟨rfl, hni⟩
    obtain ⟨r0, rf⟩ := row1 hR
    obtain ⟨e0, ef⟩ := row1 hE
    have HRR : Hid _ := hR
    have HER : Hid _ := hE
    have HDR : Hid _ := hDr
    have HB : Hid (Below w.heap.size w W) := hb
    clear ha0 hF hS hK hX hb hni hDr hR hE
    refine wpB_then (n := 10) ?_
    gi_wp2
    refine wpB_of (n := 10) ?_
    gi_wp2
    have h1 : kF + 1 + 1 ≠ D := by rintro rfl; have := HDR.out; rw [HRR.out] at this; cases this
    have h2 : kF + 1 + 1 + 1 ≠ D := by rintro rfl; have := HDR.out; rw [HER.out] at this; cases this
    obtain ⟨W6, hW6⟩ : ∃ W6, ((W.setCell ⟨kF + 1 + 1, 0, none⟩ (.int .i64 (-1))).setCell ⟨kF + 1 + 1 + 1, 0, none⟩ (.int .i64 0)) = W6 := ⟨_, rfl⟩
    have hd2 : W6.heap[D]? = some (.deferred (some [])) := by rw [← hW6]; exact (heap_setCell_other _ _ _ _ (fun e => h2 e.symm)).trans ((heap_setCell_other _ _ _ _ (fun e => h1 e.symm)).trans HDR.out)
    have hs6 : W6.heap[kF + 1 + 1]? = some (.cells #[.int .i64 (-1)] 3) := by rw [← hW6, heap_setCell_other _ _ _ _ (show kF + 1 + 1 ≠ kF + 1 + 1 + 1 by omega), heap_setCell_same _ _ _ _ _ _ HRR.out]; rfl
    have he6 : W6.heap[kF + 1 + 1 + 1]? = some (.cells #[.int .i64 0] 24) := by rw [← hW6, heap_setCell_same _ _ _ _ _ _ ((heap_setCell_other _ _ _ _ (show kF + 1 + 1 + 1 ≠ kF + 1 + 1 by omega)).trans HER.out)]; rfl
    have hb6 : Below w.heap.size w W6 := by
      have := HKF.out
      rw [← hW6]; exact (HB.out.setCell (p := ⟨kF + 1 + 1, 0, none⟩) (by show w.heap.size ≤ kF + 1 + 1; omega) _).setCell (p := ⟨kF + 1 + 1 + 1, 0, none⟩) (by show w.heap.size ≤ kF + 1 + 1 + 1; omega) _
    rw [hW6]
    refine ⟨by simp, .inl ⟨_, _, rfl, run_takeDeferred hd2, ?_⟩⟩
    exact ⟨_, res_Find rfl rfl (put_keep hs6 h1) (put_keep he6 h2), ⟨_, rfl, HFI.out⟩, by rw [← HKF.out]; exact put_below hb6 (by have := HB5.out.size; omega)⟩
end Go.Proofs.YtfkcpilkhdbpoaaGreatDoor.S6
