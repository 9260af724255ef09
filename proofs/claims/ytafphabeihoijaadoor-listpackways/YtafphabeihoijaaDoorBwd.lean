import Derived.Test.YtafphabeihoijaaDoorFwd
import Derived.Test.YtafphabeihoijaaDoorLQ
import Derived.Test.YtafphabeihoijaaDoorBBef
namespace Go.Proofs.YtafphabeihoijaaDoor
open Go.RowKit Go.Shelf
set_option linter.unusedVariables false
attribute [local go_sem] Oper.semAt_some
theorem rev_step {α : Type} (L : List α) (j : Nat) (x : α) (h : L[j]? = some x) : L.reverse.take (L.length - 1 - j) ++ [x] = L.reverse.take (L.length - j) ∧ L.reverse.take (L.length - 1 - j) ++ [x] <+: L.reverse := by
  have hj : j < L.length := (List.getElem?_eq_some_iff.1 h).1
  have e : L.reverse.take (L.length - 1 - j) ++ [x] = L.reverse.take (L.length - j) := by
    have h1 : L.reverse[L.length - 1 - j]? = some x := by
      rw [List.getElem?_reverse (by omega), show L.length - 1 - (L.length - 1 - j) = j by omega]; exact h
    rw [show L.length - j = (L.length - 1 - j) + 1 by omega]
    obtain ⟨hi, e2⟩ := List.getElem?_eq_some_iff.1 h1
    rw [List.take_succ_eq_append_getElem hi, e2]
  exact ⟨e, e ▸ List.take_prefix _ _⟩
theorem ent_facts (l : List LM.Item) (hl : ∀ it ∈ l, LM.Wf it) (j : Nat) (hj : j < l.length) :
    (LM.entsFrom 0 0 l)[j]? = some ⟨j, l[j], LM.bsum (l.take j), LM.dsize l[j]⟩ ∧ LM.bsum (l.take j) < (LM.bodyOf l).length ∧ LM.rdItem ((LM.bodyOf l).drop (LM.bsum (l.take j))) = some (l[j], LM.dsize l[j]) ∧
    ((LM.bodyOf l).drop (LM.bsum (l.take j) + LM.dsize l[j])).take (LM.bsz (LM.dsize l[j])) = LM.back (LM.dsize l[j]) ∧ LM.bsum (l.take (j + 1)) = LM.bsum (l.take j) + (LM.dsize l[j] + LM.bsz (LM.dsize l[j])) ∧ LM.dsize l[j] < 2097152 := by
  have hg := LM.ents_get l 0 0 j hj
  simp only [Nat.zero_add] at hg
  have hm := List.mem_of_getElem? hg
  have hp := LM.parse_body l (l.length + 1) 0 0 hl (by omega)
  have h1 := LM.parse_mem (LM.bodyOf l) (l.length + 1) 0 0 (LM.bodyOf l) (by simp) ⟨j, l[j], LM.bsum (l.take j), LM.dsize l[j]⟩ (by rw [hp]; exact hm)
  have h2 := LM.ents_ok (LM.bodyOf l) l 0 0 hl (by simp) _ hm
  refine ⟨hg, h1.1, h1.2, h2.2.2, ?_, ?_⟩
  · rw [List.take_succ_eq_append_getElem hj, LM.bsum_app, LM.bsum_cons, LM.bsum_nil]; rfl
  · have := LM.dsize_le _ (hl _ (List.getElem_mem hj)); omega
theorem bwd_any (b : ByteArray) (c : Int) (w : World) : Calls Tryd.prog 26 #[.agg #[.string b, .int .i64 c]] w fun e w' =>
    e = .returned (.func (.func 42) #[] #[.pointer (some ⟨w.heap.size, 0, none⟩)]) ∧ w' = w.alloc (.cells #[.string b, .int .i64 c] 50) := by
  have hmf : ∀ (fn : Fn) (first cap : Array Value) (w : World), (Instr.makeFunc fn first cap).run Tryd.prog w = .ok (.func fn first cap) w := fun _ _ _ _ => rfl
  go_enter Tryd.func26, Tryd.ntmps26
  go_wp2
  go_ret
  exact ⟨rfl, rfl⟩
set_option maxHeartbeats 2000000 in
set_option maxRecDepth 100000 in
theorem bwd_seq (n : Nat) (l : List LM.Item) (hl : ∀ it ∈ l, LM.Wf it) (hs : LM.bsum l ≤ 1073741824) (Bo : ByteArray) (hBo : Bo.data.toList = LM.bodyOf l) (bx B0 : Nat) :
    SeqP n Tryd.prog 42 #[.pointer (some ⟨bx, 0, none⟩)] encs (LM.entsFrom 0 0 l).reverse false pch (Box Bo (l.length : Int) bx) B0 := by
  intro ll J Jx Jp W hBW hJ hbox hJx hY h0
  have hBs : Bo.size = LM.bsum l := by rw [← list_len, hBo, LM.bodyOf_len]
  have hlen : (LM.entsFrom 0 0 l).length = l.length := LM.ents_len l 0 0
  have hge := LM.bsum_ge l
  refine callsIn_of_wp Tryd.func42 rfl trivial ?_ rfl
  simp only [Tryd.ntmps42, List.size_toArray, List.length_cons, List.length_nil, Nat.reduceAdd, Nat.reduceSub, Array.replicate_succ, Array.replicate_zero, List.push_toArray, List.append_toArray, List.nil_append, List.cons_append]
  obtain ⟨x0, x1, xf⟩ := row2 (hbox _ _ h0).row
  have HBO : Hid _ := hBo
  have HL : Hid _ := hl
  have HY : Hid _ := hY
  clear hBo hl hY
  gi_wp2
  clear x0 x1 xf
  gi_loopw [3, 4] (fun at_ pl wr => (pl = .int .i64 (-1) ∧ J (LM.entsFrom 0 0 l).reverse wr ∧ B0 ≤ wr.heap.size) ∨ ∃ j : Nat, j < l.length ∧ pl = .int .i64 (j : Int) ∧ at_ = .int .i64 (LM.bsum (l.take (j + 1)) : Nat) ∧ J ((LM.entsFrom 0 0 l).reverse.take (l.length - 1 - j)) wr ∧ B0 ≤ wr.heap.size)
    (fun _ pl _ => (intOf pl + 1).toNat)
  case atStart =>
    by_cases h : l.length = 0
    · have hn : l = [] := List.eq_nil_of_length_eq_zero h
      subst hn
      exact Or.inl ⟨rfl, h0, hBW⟩
    · refine Or.inr ⟨l.length - 1, by omega, ?_, ?_, ?_, hBW⟩
      · congr 1; omega
      · rw [show l.length - 1 + 1 = l.length by omega, List.take_length, ← hBs]
      · rw [show l.length - 1 - (l.length - 1) = 0 by omega]; exact h0
  case round =>
    rcases hrel with ⟨rfl, hJs, hB0⟩ | ⟨j, hj, rfl, rfl, hJs, hB0⟩
    · gi_wp2
      go_end0
      exact Or.inl ⟨⟨_, rfl⟩, by trivial, hJs⟩
    · obtain ⟨hget, hlt, hrd, hbk, hsum, hd⟩ := ent_facts l HL.out j hj
      have hbx := hbox _ _ hJs
      obtain ⟨y0, y1, yf⟩ := row2 hbx.row
      obtain ⟨hrev, hpre⟩ := rev_step _ j _ hget
      rw [hlen] at hrev hpre
      obtain ⟨⟨t, m, q⟩, hit⟩ : ∃ it, l[j] = it := ⟨_, rfl⟩
      rw [hit] at hget hrd hbk hsum hd hrev hpre
      obtain ⟨sp, hsp⟩ : ∃ sp, LM.dsize ⟨t, m, q⟩ = sp := ⟨_, rfl⟩
      rw [hsp] at hget hrd hbk hsum hd hrev hpre
      have hE1 := LM.bsum_take_le l (j + 1)
      rw [LM.bodyOf_len, ← hBs] at hlt
      obtain ⟨A0, hA0⟩ : ∃ A0, LM.bsum (l.take j) = A0 := ⟨_, rfl⟩
      obtain ⟨A1, hA1⟩ : ∃ A1, LM.bsum (l.take (j + 1)) = A1 := ⟨_, rfl⟩
      rw [hA0] at hrd hbk hsum hlt hrev hpre
      rw [hA1] at hsum hE1 ⊢
      have hsub : A1 - LM.bsz sp = A0 + sp := by omega
      have HBB : Hid (∀ W', Calls Tryd.prog 43 #[.agg #[.string Bo, .int .i64 (l.length : Int)], .int .i64 (A1 : Int)] W' fun e w' => e = .returned (.int .i64 (A0 : Int)) ∧ Below W'.heap.size W' w') := fun W' => by
        have := bbef_any Bo (l.length : Int) A1 sp (by omega) (by omega) hd (by omega) (by rw [hsub, HBO.out]; exact hbk) W'
        rwa [show A1 - LM.bsz sp - sp = A0 by omega] at this
      obtain ⟨T, hTT⟩ : ∃ T, strB t = T := ⟨_, rfl⟩
      have HE : Hid (∀ W', Wid W' → Calls Tryd.prog 44 #[.agg #[.string Bo, .int .i64 (l.length : Int)], .int .i64 (A0 : Int)] W' fun e w' => e = .returned (.agg #[.string T, .int .i64 m, .bool q, .int .i64 (A0 : Int), .int .i64 (sp : Int)]) ∧ Below W'.heap.size W' w') := fun W' hW' => by
        have := entAt_any Bo (l.length : Int) A0 hlt (by omega) W' hW'
        rw [HBO.out, hrd] at this
        rw [← hTT]; exact this
      have HX : Hid (Box Bo (l.length : Int) bx wr) := hbx
      have HA0 : Hid _ := hA0
      have HJ : Hid _ := hJs
      have HRV : Hid _ := hrev
      have HPR : Hid _ := hpre
      clear hbx hJs hrev hpre hget hrd hbk hsum hd hsub hit hsp hA0 hA1
      gi_wp2_with fail
      refine ⟨trivial, fun h => (by cases h), (callsIn_wide.2 (HBB.out _)).mono ?_⟩
      rintro e w1 ⟨rfl, hb1⟩
      have HB1 : Hid (Below wr.heap.size wr w1) := hb1
      have HX1 : Hid (Box Bo (l.length : Int) bx w1) := HX.out.on hb1
      clear hb1 y0 y1 yf
      obtain ⟨y0, y1, yf⟩ := row2 HX1.out.row
      gi_wp2_with fail
      refine ⟨trivial, fun h => (by cases h), (callsIn_wide.2 (HE.out _ HX1.out.wid)).mono ?_⟩
      rintro e w2 ⟨rfl, hb2⟩
      have HB2 : Hid (Below wr.heap.size wr w2) := bel_to HB1.out hb2 (Nat.le_refl _)
      obtain ⟨fn, tmps, assign, body, hy, hR⟩ := HY.out _ _ _ HPR.out (hJ _ _ _ HJ.out HB2.out)
      simp only [encs, encE, hTT] at hy
      clear hb2
      gi_wp2
      refine ⟨fun h => (by cases h), hR.mono ?_⟩
      rintro e W3 (⟨rfl, hJ3, hkc, hz3⟩ | ⟨rfl, hJx3⟩ | ⟨rfl, hJp3⟩)
      · have HJ3 : Hid _ := hJ3
        have HZ : Hid (B0 ≤ W3.heap.size) := by have := HB2.out.size; show _ ≤ _; omega
        clear hJ3 hR hy hkc hz3
        gi_wp2
        refine ⟨?_, by simp [intOf]⟩
        have h3 := HJ3.out
        rw [HRV.out] at h3
        by_cases hj0 : j = 0
        · subst hj0
          refine Or.inl ⟨rfl, ?_, HZ.out⟩
          rwa [Nat.sub_zero, List.take_of_length_le (by rw [List.length_reverse, hlen]; omega)] at h3
        · refine Or.inr ⟨j - 1, by omega, by congr 1; omega, ?_, ?_, HZ.out⟩
          · rw [show j - 1 + 1 = j by omega, HA0.out]
          · rwa [show l.length - 1 - (j - 1) = l.length - j by omega]
      · gi_wp2
        refine bodyPost_ret (results_none rfl _ _ _) rfl ?_
        exact Or.inr (Or.inl ⟨⟨_, rfl⟩, _, HPR.out, hJx3⟩)
      · exact ⟨rfl, Or.inr (Or.inr ⟨rfl, Or.inl hJp3⟩)⟩
end Go.Proofs.YtafphabeihoijaaDoor
