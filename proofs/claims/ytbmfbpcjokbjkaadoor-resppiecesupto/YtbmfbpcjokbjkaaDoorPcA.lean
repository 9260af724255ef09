import Derived.Test.YtbmfbpcjokbjkaaDoorSqA
import Derived.Laws.AppendOwnNone
namespace Go.Proofs.YtbmfbpcjokbjkaaDoor
open Go.RowKit Vi
set_option linter.unusedVariables false
set_option linter.unusedSimpArgs false
/-- another parser is fed: this one stays. -/
theorem PA.far {B : Nat} {W W' : World} {q q' : Nat} {pv wv pv' wv' : Value} {S : PS} {c : Array Value} (h : PA B W q pv wv S) (hm : Mv W W' q' (.slice none 0 0) (.slice none 0 0) pv' wv') (hne : q ≠ q') (hq' : W.heap[q']? = some (.cells c 45)) : PA B W' q pv wv S := by
  have hrow := h.row
  unfold PrR at hrow
  refine ⟨?_, own_stays h.po (fun g hg => ?_), own_stays h.wo (fun g hg => ?_), h.lo⟩
  · unfold PrR
    rw [hm.block q (row_lt hrow) hne (fun e => by cases e) (fun e => by cases e)]; exact hrow
  · obtain ⟨cur, hc⟩ := own_ty h.po g hg
    exact hm.block g (row_lt hc) (fun e => by rw [e] at hc; exact ty_apart hc hq' (by decide)) (fun e => by cases e) (fun e => by cases e)
  · obtain ⟨cur, hc⟩ := own_ty h.wo g hg
    exact hm.block g (row_lt hc) (fun e => by rw [e] at hc; exact ty_apart hc hq' (by decide)) (fun e => by cases e) (fun e => by cases e)
theorem RLs.far {B b0 : Nat} {W W' : World} {q' : Nat} {pv' wv' lv : Value} {E : List (Value × Rq)} {c : Array Value} (h : RLs B b0 W lv E) (hm : Mv W W' q' (.slice none 0 0) (.slice none 0 0) pv' wv') (hq' : W.heap[q']? = some (.cells c 45)) : RLs B b0 W' lv E := by
  refine ⟨own_stays' h.row (fun g hg => ?_), fun x hx => own_stays' (h.args x hx) (fun g hg => ?_)⟩
  · obtain ⟨cur, hc⟩ := own_ty' h.row g hg
    exact hm.block g (row_lt hc) (fun e => by rw [e] at hc; exact ty_apart hc hq' (by decide)) (fun e => by cases e) (fun e => by cases e)
  · obtain ⟨cur, hc⟩ := own_ty' (h.args x hx) g hg
    exact hm.block g (row_lt hc) (fun e => by rw [e] at hc; exact ty_apart hc hq' (by decide)) (fun e => by cases e) (fun e => by cases e)
theorem PA.block {B : Nat} {W : World} {q : Nat} {pv wv : Value} {S : PS} (h : PA B W q pv wv S) : ∃ c, W.heap[q]? = some (.cells c 45) := ⟨_, h.row⟩
theorem RLs.one {B b0 : Nat} {W : World} {lv : Value} {E : List (Value × Rq)} (h : RLs B b0 W lv E) : ∀ u ∈ rqC E, u.oneCell' = true := by
  intro u hu
  unfold rqC at hu
  obtain ⟨x, hx, hux⟩ := List.mem_flatMap.1 hu
  rcases List.mem_cons.1 hux with rfl | hux
  · obtain ⟨p, c, e⟩ := own_form (h.args x hx)
    rw [e]; rfl
  · have : u = .string (strB x.2.err) := by simpa using hux
    rw [this]; rfl
theorem rqC_app (E F : List (Value × Rq)) : rqC (E ++ F) = rqC E ++ rqC F := by unfold rqC; rw [List.flatMap_append]
/-- requests behind requests: the operation, for the walk. -/
theorem wpList_append_rq {w : World} {ops : Array Oper} {rest : List Oper} {o : Oper} {a : Act} {Q : Exit → Act → World → Prop} (hg : o.guard = none) (s x : Operand)
    (hop : o.op = Op.call { callee := Callee.builtin Builtin.append, args := #[s, x], argTypes := #[26, 26] })
    (base base' B B' : Nat) (v : Value) (n : Nat) (E : List (Value × Rq)) (hs : a.eval s = v) (hn : E.length = n) (hown : RLs B base w v E) (r : Value) (F : List (Value × Rq)) (hx : a.eval x = r) (hr : RLs B' base' w r F)
    (hl : n + F.length ≤ 1099511627776) (hb : base ≤ w.heap.size)
    (h : ∀ v' w', w'.ownsRow base 36 2 v' (n + F.length) (rqC E ++ rqC F) → w.grownBy w' v.ownBlock → wpList Tryd.prog ops Q rest (a.put o.dst v') w') :
    wpList Tryd.prog ops Q (o :: rest) a w := by
  obtain ⟨i0, hi0, hy0, hy1, hy2⟩ := info_parts infoRq
  have hrow := hr.row
  have hown' := hown.row
  rw [hn] at hown'
  rcases hrow.2 with ⟨rfl, h0⟩ | ⟨g, cap, cur, rfl, hbg, hgr, q⟩
  · have hF : F = [] := List.eq_nil_of_length_eq_zero h0
    subst hF
    refine wpList_append_own_none hg s x 26 hop base 36 i0 2 Tryd.underlying26 hi0 v n (rqC E) hs hown' hx ?_
    exact h v w (by simpa [rqC] using hown') ⟨rfl, rfl, rfl, Nat.le_refl _, fun _ _ _ => rfl⟩
  · refine wpList_append_own_at w hg s x 26 hop base 36 i0 (.agg #[.slice none 0 0, .string ⟨#[]⟩]) 2 40 Tryd.underlying26 hi0 hy0 hy1 hy2 rfl (by decide) v n (rqC E) hs hown' ⟨g, 0, none⟩ F.length cap (rqC F) hx (rqC_len F) ?_ hr.one (by unfold maxLen; omega) (by omega) hb ?_
    · intro j u hj
      exact World.ownsRow.cells hrow (g := g) rfl j u hj
    · intro v' w' ho hgw _ _
      exact h v' w' ho hgw
/-- what was told joins what was told before. -/
theorem FI.more {B b0 b1 : Nat} {w0 W W' : World} {q : Nat} {pv0 wv0 pv wv : Value} {S : PS} {lv lv' fv : Value} {E F : List (Value × Rq)} (h : FI B b0 w0 W q pv0 wv0 pv wv S lv E) (hb0 : w0.heap.size ≤ b0)
    (hF : RLs B b1 W fv F) (hdj : ∀ x ∈ F, ∀ g, x.1.ownBlock = some g → wv.ownBlock ≠ some g) (ho : W'.ownsRow b0 36 2 lv' (E.length + F.length) (rqC E ++ rqC F)) (hg : W.grownBy W' lv.ownBlock) :
    FI B b0 w0 W' q pv0 wv0 pv wv S lv' (E ++ F) := by
  have hrow := h.pa.row
  unfold PrR at hrow
  have keep : ∀ (g : Nat) (c : Array Value) (T : TypeId), W.heap[g]? = some (.cells c T) → T ≠ 36 → W'.heap[g]? = W.heap[g]? := fun g c T hc hT => hg.block g (row_lt hc) (fun e => by
    obtain ⟨cur, hc2⟩ := own_ty' h.rl.row g e.symm
    exact ty_apart hc hc2 hT)
  refine ⟨⟨?_, own_stays h.pa.po (fun g hg => ?_), own_stays h.pa.wo (fun g hg => ?_), h.pa.lo⟩, ⟨hg.os.trans h.mv.os, hg.tape.trans h.mv.tape, hg.output.trans h.mv.output, Nat.le_trans h.mv.size hg.size, fun k hk h1 h2 h3 => (hg.block k (Nat.lt_of_lt_of_le hk h.mv.size) (fun e => by have := own_block h.rl.row k e.symm; omega)).trans (h.mv.block k hk h1 h2 h3), h.mv.np, h.mv.nw⟩, ⟨?_, fun x hx => ?_⟩, fun x hx => ?_⟩
  · unfold PrR
    rw [keep q _ _ hrow (by decide)]; exact hrow
  · obtain ⟨cur, hc⟩ := own_ty h.pa.po g hg; exact keep g _ _ hc (by decide)
  · obtain ⟨cur, hc⟩ := own_ty h.pa.wo g hg; exact keep g _ _ hc (by decide)
  · rw [rqC_app, List.length_append]; exact ho
  · rcases List.mem_append.1 hx with hx | hx
    · refine own_stays' (h.rl.args x hx) (fun g hg => ?_)
      obtain ⟨cur, hc⟩ := own_ty' (h.rl.args x hx) g hg; exact keep g _ _ hc (by decide)
    · refine own_stays' (hF.args x hx) (fun g hg => ?_)
      obtain ⟨cur, hc⟩ := own_ty' (hF.args x hx) g hg; exact keep g _ _ hc (by decide)
  · rcases List.mem_append.1 hx with hx | hx
    · exact h.dj x hx
    · exact hdj x hx
/-- how much is told and held. -/
theorem TX_len : ∀ (n : Nat) (a : SP.Bs), a.length ≤ n → (TX a).1.length ≤ a.length ∧ ∀ P, (TX a).2 = some P → P.length ≤ a.length := by
  intro n
  induction n with
  | zero =>
    intro a ha
    have : a = [] := List.eq_nil_of_length_eq_zero (by omega)
    subst this
    exact ⟨Nat.le_refl _, fun P hP => by injection hP with hP; rw [← hP]; exact Nat.le_refl _⟩
  | succ n ih =>
    intro a ha
    by_cases h0 : a = []
    · subst h0; exact ⟨Nat.le_refl _, fun P hP => by injection hP with hP; rw [← hP]; exact Nat.le_refl _⟩
    · have htl : (told (rdG (PS0 0) a)).length ≤ 1 := by unfold told; split <;> simp
      by_cases hk : (rdG (PS0 0) a).k = 0
      · rw [TX_wait a h0 hk]
        exact ⟨Nat.zero_le _, fun P hP => by injection hP with hP; rw [← hP]; exact Nat.le_refl _⟩
      · by_cases hr : (rdG (PS0 0) a).err = []
        · rw [TX_ok a h0 hk hr]
          have hlen := rd0_rest a h0
          obtain ⟨i1, i2⟩ := ih _ (show (rdG (PS0 0) a).rest.length ≤ n by omega)
          refine ⟨?_, fun P hP => Nat.le_trans (i2 P hP) (by omega)⟩
          show (told (rdG (PS0 0) a) ++ _).length ≤ _
          rw [List.length_append]; omega
        · rw [TX_err a h0 hk hr]
          refine ⟨?_, fun P hP => by cases hP⟩
          have : 0 < a.length := by cases a with | nil => exact absurd rfl h0 | cons b t => simp
          show (told (rdG (PS0 0) a)).length ≤ _
          omega
theorem FX_len (s : SP.Bs) : (FX (some []) s).1.length ≤ s.length ∧ ∀ P, (FX (some []) s).2 = some P → P.length ≤ s.length := TX_len _ s (Nat.le_refl _)
/-- how many words a request has. -/
theorem feed_more (B b0 q : Nat) (w0 W : World) (pv0 wv0 pv wv lv : Value) (o : Option SP.Bs) (E : List (Value × Rq)) (s : ByteArray) (hs : s.size ≤ 1073741824) (ho : Pnd o) (hoP : ∀ P, o = some P → P.length ≤ 1099511627776) (h : FI B b0 w0 W q pv0 wv0 pv wv (stP o) lv E) (hL : ∀ W', Below B W W' → Laid W') :
    Calls Tryd.prog 8 #[.pointer (some ⟨q, 0, none⟩), .string s] W fun e w' => ∃ pv' wv' P2 c2 F, e = .returned (.slice P2 F.length c2) ∧ FI B b0 w0 w' q pv0 wv0 pv' wv' (stP (FX o s.data.toList).2) lv E ∧ RLs B W.heap.size w' (.slice P2 F.length c2) F ∧ (∀ x ∈ F, ∀ g, x.1.ownBlock = some g → wv'.ownBlock ≠ some g) ∧ F.map (·.2) = (FX o s.data.toList).1 := by
  refine (Feed_any B q pv wv o s hs ho hoP W h.pa hL).mono ?_
  rintro e w' ⟨pv', wv', P2, c2, F, hfi, hm, rfl⟩
  exact ⟨pv', wv', P2, c2, F, rfl, h.step hfi.pa hfi.mv, hfi.rl, hfi.dj, hm⟩
/-- a number made a place. -/
theorem pos_any (x : Int) (n : Nat) (hx0 : -9223372036854775808 ≤ x) (hx1 : x ≤ 9223372036854775807) (h0 : 0 < n) (h1 : n ≤ 1099511627776) (w : World) :
    Calls Tryd.prog 9 #[.int .i64 x, .int .i64 (n : Int)] w fun e w' => (∃ r : Nat, r < n ∧ e = .returned (.int .i64 (r : Int))) ∧ w' = w := by
  obtain ⟨m, hm⟩ : ∃ m, Int.tmod x (n : Int) = m := ⟨_, rfl⟩
  have hb1 : m < (n : Int) := by rw [← hm]; exact Int.tmod_lt_of_pos x (by omega)
  have hb0 : -(n : Int) < m := by
    have := Int.tmod_lt_of_pos (-x) (show (0 : Int) < (n : Int) by omega)
    rw [Int.neg_tmod] at this
    omega
  have hz : ((n : Int) == 0) = false := by simp; omega
  have hw : IntKind.i64.wrap m = m := by rw [IntKind.wrap_i64] <;> omega
  by_cases hneg : m < 0
  · have hws : IntKind.i64.wrap (m + (n : Int)) = m + (n : Int) := by rw [IntKind.wrap_i64] <;> omega
    go_enter Tryd.func9, Tryd.ntmps9
    go_wp2
    go_returns
    exact ⟨⟨(m + (n : Int)).toNat, by omega, by show Ending.returned (.int .i64 (m + (n : Int))) = _; rw [Int.toNat_of_nonneg (by omega)]⟩, rfl⟩
  · go_enter Tryd.func9, Tryd.ntmps9
    go_wp2
    go_returns
    exact ⟨⟨m.toNat, by omega, by show Ending.returned (.int .i64 m) = _; rw [Int.toNat_of_nonneg (by omega)]⟩, rfl⟩
end Go.Proofs.YtbmfbpcjokbjkaaDoor
