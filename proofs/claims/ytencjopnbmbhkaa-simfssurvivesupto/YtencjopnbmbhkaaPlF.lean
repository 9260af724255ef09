import Derived.Test.YtencjopnbmbhkaaPlE
namespace Go.Proofs.Ytencjopnbmbhkaa
open Go.RowKit Go.Maps
set_option linter.unusedVariables false
set_option linter.unusedSimpArgs false
def EvR (b : Nat) (W : World) (v : Value) (E : List (ByteArray × ByteArray)) : Prop := W.ownsRow b 34 2 v E.length (pprE.fl E)
theorem EvR.on {b : Nat} {W W' : World} {v : Value} {E : List (ByteArray × ByteArray)} (h : EvR b W v E) (hb : Below W.heap.size W W') : EvR b W' v E := own_bel h hb
theorem EvR.mod {b : Nat} {W W' : World} {v : Value} {E : List (ByteArray × ByteArray)} {g : Nat} {X : Gh} {F : Fs} (h : EvR b W v E) (hf : FsC W g X F) (hm : ModP (Own g F X) W W') : EvR b W' v E := own_to h (fun k hk => by
  obtain ⟨cur, hc⟩ := own_type h hk
  exact hm.oth k (row_lt hc) (fun ho => by have := hf.own_ty ho hc; exact absurd this (by unfold tyOwn; decide)))
theorem EvR.kr {b : Nat} {W : World} {v : Value} {E : List (ByteArray × ByteArray)} (h : EvR b W v E) : KR pprE W v E := KR.own (E := pprE) h rfl
theorem EvR.nil {b : Nat} {W : World} : EvR b W (.slice none 0 0) [] := ⟨rfl, Or.inl ⟨rfl, rfl⟩⟩
section
variable {α : Type} {E : ET α}
/-- append(own, row...), where the new slice lies. -/
theorem wpList_appX (ok : ETok E) {w : World} {ops : Array Oper} {rest : List Oper} {o : Oper} {a : Act} {Q' : Exit → Act → World → Prop} (hg : o.guard = none) (s x : Operand)
    (hop : o.op = Op.call { callee := Callee.builtin Builtin.append, args := #[s, x], argTypes := #[E.ST, E.ST] })
    (base : Nat) (v : Value) (xs : List α) (n : Nat) (hn : n = xs.length) (hs : a.eval s = v) (hown : w.ownsRow base E.T E.k v n (E.fl xs)) (r : Value) (l : List α) (hx : a.eval x = r) (hr : KR E w r l)
    (N : Nat) (hN : N = xs.length + l.length) (hl : xs.length + l.length ≤ maxLen) (hby : (xs.length + l.length) * E.by_ ≤ 140737488355328) (hb : base ≤ w.heap.size)
    (h : ∀ v' w', w'.ownsRow base E.T E.k v' N (E.fl (xs ++ l)) → w.grownBy w' v.ownBlock → (v'.ownBlock = v.ownBlock ∨ v'.ownBlock = some w.heap.size) → wpList Try.prog ops Q' rest (a.put o.dst v') w') :
    wpList Try.prog ops Q' (o :: rest) a w := by
  subst hn
  subst hN
  obtain ⟨i0, hi, hz0, hz1, hz2⟩ := info_of ok.inf
  rcases hr with ⟨rfl, p, c, rfl, hpc⟩ | ⟨g, oo, cap, rfl, hc⟩
  · cases p with
    | none =>
      obtain rfl := hpc rfl
      refine wpList_append_own_none hg s x E.ST hop base E.T i0 E.k ok.und hi v xs.length (E.fl xs) hs hown hx ?_
      exact h v w (by rw [List.append_nil]; exact hown) ⟨rfl, rfl, rfl, Nat.le_refl _, fun k _ _ => rfl⟩ (Or.inl rfl)
    | some ad =>
      refine wpList_append_own_at w hg s x E.ST hop base E.T i0 E.z E.k E.by_ ok.und hi hz0 hz1 hz2 ok.zc ok.kp v xs.length (E.fl xs) hs hown ad 0 c [] hx (by simp) (fun j u hu => by simp at hu) (fun u hu => by cases hu) (by simpa using hl) (by simpa using hby) hb ?_
      intro v' w' ho hgw _ hv
      exact h v' w' (by simpa using ho) hgw hv
  · refine wpList_append_own_at w hg s x E.ST hop base E.T i0 E.z E.k E.by_ ok.und hi hz0 hz1 hz2 ok.zc ok.kp v xs.length (E.fl xs) hs hown ⟨g, oo, none⟩ l.length cap (E.fl l) hx (ET.fl_len ok l) ?_ (ET.fl_one ok l) hl hby hb ?_
    · intro j u hj
      rw [Lib.add_plain]
      exact hc j u hj
    · intro v' w' ho hgw _ hv
      refine h v' w' ?_ hgw hv
      rw [ET.fl_app]; exact ho
/-- .. and one, laid into a block of its own just ahead. -/
theorem wpList_oneX (ok : ETok E) {w : World} {ops : Array Oper} {rest : List Oper} {o : Oper} {a : Act} {Q' : Exit → Act → World → Prop} (cs : Array Value) (x1 : α) (hcs : cs.toList = E.enc x1) (hg : o.guard = none) (s x : Operand)
    (hop : o.op = Op.call { callee := Callee.builtin Builtin.append, args := #[s, x], argTypes := #[E.ST, E.ST] })
    (base : Nat) (v : Value) (xs : List α) (n : Nat) (hn : n = xs.length) (hs : a.eval s = v) (hown : w.ownsRow base E.T E.k v n (E.fl xs)) (hx : a.eval x = .slice (some ⟨w.heap.size, 0, none⟩) 1 1)
    (hl : xs.length + 1 ≤ maxLen) (hby : (xs.length + 1) * E.by_ ≤ 140737488355328) (hb : base ≤ w.heap.size)
    (h : ∀ v' w', w'.ownsRow base E.T E.k v' (n + 1) (E.fl (xs ++ [x1])) → (w.alloc (.cells cs E.T)).grownBy w' v.ownBlock → (v'.ownBlock = v.ownBlock ∨ v'.ownBlock = some (w.heap.size + 1)) → wpList Try.prog ops Q' rest (a.put o.dst v') w') :
    wpList Try.prog ops Q' (o :: rest) a (w.alloc (.cells cs E.T)) := by
  have hb2 : Below w.heap.size w (w.alloc (.cells cs E.T)) := (Below.refl _ _).alloc (Nat.le_refl _) _
  have hx2 := one_alloc w (.cells cs E.T)
  have hown2 := own_keep hown (fun q _ hq => hb2.block q hq)
  refine wpList_appX ok hg s x hop base v xs n hn hs hown2 _ [x1] hx (Or.inr ⟨w.heap.size, 0, 1, rfl, fun j u hu => ?_⟩) (n + 1) (by simp [hn]) (by simpa using hl) (by simpa using hby) (Nat.le_trans hb hb2.size) ?_
  · rw [cell_of_row _ _ _ _ _ _ hx2, Nat.zero_add]
    have : (E.fl [x1]) = cs.toList := by simp [ET.fl, hcs]
    rw [this] at hu
    simpa using hu
  · intro v' w' ho hgw hv
    exact h v' w' ho hgw (by rw [World.size_alloc] at hv; exact hv)
end
theorem Holds.to2 {W W' : World} {F : Fs} {q : Pq} (h : Holds W F q) (hk : ∀ (k : Nat) (cs : Array Value) (t : Nat) (fz : Nat × Nat), W.heap[k]? = some (.cells cs t fz) → t ≠ 34 → W'.heap[k]? = W.heap[k]?) : Holds W' F q := by
  refine ⟨fun hc => ?_, fun hc => ?_⟩
  · obtain ⟨h1, v, h2, h4⟩ := h.cr hc
    refine ⟨h1, v, (hk _ _ _ _ h2 (by decide)).trans h2, own_to h4 (fun k hk' => ?_)⟩
    obtain ⟨cur, hc⟩ := own_type h4 hk'
    exact hk _ _ _ _ hc (by decide)
  · obtain ⟨p, h1, h2⟩ := h.fl hc
    exact ⟨p, (hk _ _ _ _ h1 (by decide)).trans h1, h2⟩
/-- A row of pairs grows. -/
theorem St.grow {w0 W W' : World} {g : Nat} {X : Gh} {F : Fs} {i : Nat} {v : Value} {E : List (ByteArray × ByteArray)} (h : St w0 W g X F i) (hr : EvR w0.heap.size W v E) (hg : W.grownBy W' v.ownBlock) : St w0 W' g X F i := by
  have hty : ∀ k, v.ownBlock = some k → ∃ cur, W.heap[k]? = some (.cells cur 34 (0, 0)) := fun k hk => own_type hr hk
  have hm : ModP (fun k => v.ownBlock = some k) W W' := ModP.grown hg (fun b hb => hb)
  have hno : ∀ k, v.ownBlock = some k → ¬ Own g F X k := fun k hk ho => by
    obtain ⟨cur, hc⟩ := hty k hk
    have := h.fs.own_ty ho hc
    exact absurd this (by unfold tyOwn; decide)
  have hC := h.fs.toFsC.mod hm hno
  refine ⟨⟨⟨hC, h.fs.pln, fun q hq => (h.fs.hld q hq).to2 (fun k cs t fz hk ht => hm.oth k (row_lt hk) (fun hs => ?_))⟩, h.q, h.bel.trans ((Below.refl w0.heap.size W).grown hg h.bel.size (fun q hq => (World.ownsRow.lt hr q hq).1)), h.own⟩, h.st, h.fi, h.ch, h.pk⟩
  obtain ⟨cur, hc⟩ := hty k hs
  have := hk.symm.trans hc
  injection this with this
  injection this with _ h3
  exact ht h3
theorem St.more {w0 W : World} {g : Nat} {X : Gh} {F : Fs} {i j : Nat} (h : St w0 W g X F i) (hj : i ≤ j) : St w0 W g X F j := ⟨⟨h.fs, Nat.le_trans h.q hj, h.bel, h.own⟩, Nat.le_trans h.st hj, Nat.le_trans h.fi hj, Nat.le_trans h.ch hj, h.pk⟩
/-- What a crash now leaves. -/
def CrashP (w0 W : World) (g : Nat) (X : Gh) (F F' : Fs) (i : Nat) (e : Ending) (w' : World) : Prop := e = .returned (.int .i64 0) ∧ (∃ X', St w0 w' g X' F' (i + 1)) ∧ ModP (Own g F X) W w'
theorem crash_st {w0 W : World} {g : Nat} {X : Gh} {F : Fs} {i : Nat} {p : List Int} {pv : Value} (h : St w0 W g X F i) (hi : i < 2199023255552) (hu : F.down = false) (hp : p.length ≤ 17592186044416) (hv : Pks W (Own g F X) pv p) :
    Calls Try.prog 10 #[ptr (some g), .int .i64 0, pv] W fun e w' => CrashP w0 W g X F (downM F p) i e w' := by
  have hst := h.st
  have hfi := h.fi
  have hch := h.ch
  have hq := h.q
  have hM : crashM F 0 p = (downM F p, 0) := by
    unfold crashM; rw [hu, if_neg (by decide), if_neg (by omega), if_pos rfl]
  have := Crash_any g X F 0 pv p hp W h.fs ⟨by omega, by omega, by omega, by omega⟩ hv
  rw [hM] at this
  have hg := down_gp 17592186044416 F p
  have g1 := hg.st
  have g2 := hg.fi
  have g3 := hg.ch
  refine Calls.mono this ?_
  rintro e w' ⟨rfl, X', hB⟩
  exact ⟨rfl, ⟨X', h.toWk.step hB, by omega, by omega, by omega, hg.pk h.pk⟩, hB.md⟩
theorem find_here {l : List (ByteArray × ByteArray)} {nm : ByteArray} {k : Nat} (h : ∀ y ∈ l.take k, y.1 ≠ nm) (hk : k < l.length) (he : l[k].1 = nm) : l.find? (fun y => decide (y.1 = nm)) = some l[k] := by
  have hs : l.take k ++ l.drop k = l := List.take_append_drop k l
  have hd : l.drop k = l[k] :: l.drop (k + 1) := List.drop_eq_getElem_cons hk
  have h1 : l.find? (fun y => decide (y.1 = nm)) = (l.take k ++ l.drop k).find? (fun y => decide (y.1 = nm)) := by rw [hs]
  have h2 : (l.drop k).find? (fun y => decide (y.1 = nm)) = some l[k] := by
    rw [hd, List.find?_cons_of_pos (by simp [he])]
  rw [h1, List.find?_append, List.find?_eq_none.2 (fun y hy => by simpa using h y hy), h2]
  rfl
set_option maxHeartbeats 2000000 in
set_option maxRecDepth 20000 in
theorem find_yes (va : Value) (l : List (ByteArray × ByteArray)) (nm x1 v : ByteArray) (hf : l.find? (fun y => decide (y.1 = nm)) = some (x1, v)) (hl : l.length ≤ 4611686018427387000) (w : World) (hr : KR pprE w va l) :
    Calls Try.prog 11 #[va, .string nm] w fun e w' => e = .returned (.tuple #[.string v, .bool true]) ∧ w' = w := by
  obtain ⟨P, c, rfl⟩ := hr.form
  have HR : Hid (KR pprE w (.slice P l.length c) l) := hr
  have HF : Hid (l.find? (fun y => decide (y.1 = nm)) = some (x1, v)) := hf
  have HL : Hid (l.length ≤ 4611686018427387000) := hl
  clear hr hf hl
  go_enter Try.func11, Try.ntmps11
  go_wp2
  go_loopw [6] (fun ci wx => ∃ j : Nat, j ≤ l.length ∧ ci = .int .i64 (j : Int) ∧ (∀ y ∈ l.take j, y.1 ≠ nm) ∧ wx = w) (fun ci _ => l.length - (intOf ci).toNat)
  case atStart => exact ⟨0, Nat.zero_le _, rfl, fun y hy => by simp at hy, rfl⟩
  case round =>
    obtain ⟨j, hj, rfl, hno, hwe⟩ := hrel
    subst hwe
    have HNO : Hid (∀ y ∈ l.take j, y.1 ≠ nm) := hno
    clear hno
    by_cases hlt : j < l.length
    · obtain ⟨g, o, c', he, hc⟩ := HR.out.cell pprOk hlt
      injection he with h1 _ h2
      subst h1
      have hat := find_here HNO.out hlt
      obtain ⟨⟨X1, X2⟩, hX⟩ : ∃ X, l[j] = X := ⟨_, rfl⟩
      have HNX : Hid (X1 ≠ nm → ∀ y ∈ l.take (j + 1), y.1 ≠ nm) := fun hne y hy => by
        rw [List.take_add_one, List.getElem?_eq_getElem hlt, List.mem_append] at hy
        rcases hy with hy | hy
        · exact HNO.out y hy
        · have : y = l[j] := by simpa using hy
          rw [this, hX]; exact hne
      have HLT : Hid (j < l.length) := hlt
      rw [hX] at hc hat
      have x0 : wr.cell? ⟨g, o + j * 2, none⟩ = some (.string X1) := hc 0 _ rfl
      have x2 : wr.cell? ⟨g, o + j * 2 + 1, none⟩ = some (.string X2) := hc 1 _ rfl
      have hz0 : (0 : Int) ≤ (j : Int) := by omega
      have hz1 : (j : Int) < (l.length : Int) := by omega
      have hiw : IntKind.i64.wrap ((j : Int) + 1) = (j : Int) + 1 := by have := HL.out; rw [IntKind.wrap_i64] <;> omega
      clear hc h2
      by_cases he : X1 = nm
      · have hv : X2 = v := by
          have h1 := hat he
          rw [HF.out] at h1
          injection h1 with h1
          injection h1 with _ h1
          exact h1.symm
        have q1 : (X1.toList == nm.toList) = true := str_same (by rw [he])
        clear hat HNX hX hlt
        subst hv
        go_wp2
        go_returns
        exact ⟨rfl, rfl⟩
      · have q1 : (X1.toList == nm.toList) = false := str_other (ba_ne he)
        have HNE : Hid (∀ y ∈ l.take (j + 1), y.1 ≠ nm) := HNX.out he
        clear hat HNX hX hlt
        go_wp2
        go_roundw
        case rel => exact ⟨j + 1, HLT.out, rfl, HNE.out, by first | rfl | trivial⟩
        case measure => have := HLT.out; simp [intOf]; omega
    · have he : j = l.length := by omega
      subst he
      have h1 := HF.out
      have h2 := List.find?_eq_none.2 (fun y hy => by simpa using HNO.out y (by rw [List.take_length]; exact hy) : ∀ y ∈ l, ¬ (decide (y.1 = nm)) = true)
      rw [h2] at h1
      cases h1
def preB (v u : ByteArray) : Bool := decide (v.size ≤ u.size) && decide (u.extract 0 v.size = v)
theorem preB_of {v u : ByteArray} (h : Pre v u) : preB v u = true := by
  unfold preB; rw [decide_eq_true h.1, decide_eq_true h.2]; rfl
end Go.Proofs.Ytencjopnbmbhkaa
