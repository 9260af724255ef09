import Derived.Test.YtnfbaeajalnmmaaGreatDoorFdJ
import Derived.WalkMore
import Derived.Scope
namespace Go.Proofs.YtnfbaeajalnmmaaGreatDoor
open Go.RowKit Vi
set_option linter.unusedVariables false
set_option linter.unusedSimpArgs false
/-- a block of a request's type beside the parser. -/
theorem PA.side {B : Nat} {W W' : World} {q g : Nat} {pv wv : Value} {S : PS} {cs : Array Value} (h : PA B W q pv wv S) (hr : W.heap[g]? = some (.cells cs 47)) (ho : Only W W' g) : PA B W' q pv wv S := by
  have hgq : q ≠ g := fun e => by
    have := h.row
    unfold PrR at this
    rw [e, hr] at this
    injection this with this
    injection this with _ h2 _
    exact absurd h2 (by decide)
  refine ⟨(ho.other q hgq).trans h.row, own_stays h.po (fun k hk => ho.other k (fun e => ?_)), own_stays h.wo (fun k hk => ho.other k (fun e => ?_)), h.lo⟩
  · obtain ⟨cur, hc⟩ := own_ty h.po k hk
    rw [e, hr] at hc
    injection hc with hc
    injection hc with _ h2 _
    exact absurd h2 (by decide)
  · obtain ⟨cur, hc⟩ := own_ty h.wo k hk
    rw [e, hr] at hc
    injection hc with hc
    injection hc with _ h2 _
    exact absurd h2 (by decide)
theorem Mv.side {w W W' : World} {q g : Nat} {pv wv pv' wv' : Value} (h : Mv w W q pv wv pv' wv') (ho : Only W W' g) (hg : w.heap.size ≤ g) : Mv w W' q pv wv pv' wv' :=
  ⟨ho.os.trans h.os, ho.tape.trans h.tape, ho.output.trans h.output, by rw [ho.size]; exact h.size, fun k hk h1 h2 h3 => (ho.other k (by omega)).trans (h.block k hk h1 h2 h3), h.np, h.nw⟩
def badLine : ByteArray := ⟨#[80, 114, 111, 116, 111, 99, 111, 108, 32, 101, 114, 114, 111, 114, 58, 32, 117, 110, 98, 97, 108, 97, 110, 99, 101, 100, 32, 113, 117, 111, 116, 101, 115, 32, 105, 110, 32, 114, 101, 113, 117, 101, 115, 116]⟩
/-- the words of a line that was taken. -/
def lnW (l : SP.Bs) : Option (List SP.Bs) := SP.sp ((eol l).length + 1) [] (eol l)
/-- what line answers: its words as a row of its own. -/
def LnIs (o : Option (List SP.Bs)) (b : Nat) (w' : World) (s : ByteArray) (e : Ending) : Prop := match o with
  | none => e = .returned (.tuple #[.string ⟨#[]⟩, .agg #[.slice none 0 0, .string badLine], .int .i64 2])
  | some [] => e = .returned (.tuple #[.string s, .agg #[.slice none 0 0, .string ⟨#[]⟩], .int .i64 1])
  | some out => ∃ P c, e = .returned (.tuple #[.string s, .agg #[.slice P out.length c, .string ⟨#[]⟩], .int .i64 2]) ∧ w'.ownsRow b 9 1 (.slice P out.length c) out.length (strS out)
theorem lnIs_some {out : List SP.Bs} {b : Nat} {w' : World} {s : ByteArray} {e : Ending} (h : out ≠ []) : LnIs (some out) b w' s e = (∃ P c, e = .returned (.tuple #[.string s, .agg #[.slice P out.length c, .string ⟨#[]⟩], .int .i64 2]) ∧ w'.ownsRow b 9 1 (.slice P out.length c) out.length (strS out)) := by
  cases out with
  | nil => exact absurd rfl h
  | cons a l => rfl
set_option maxRecDepth 20000 in
set_option maxHeartbeats 2000000 in
theorem line_any (B q : Nat) (pv wv : Value) (S : PS) (s : ByteArray) (hn : S.part.length ≤ 1073741824) (w : World) (h : PA B w q pv wv S) (hL : ∀ W, Below B w W → Laid W) :
    Calls Tryz.prog 50 #[.pointer (some ⟨q, 0, none⟩), .string s] w fun e w' => ∃ pv', LnIs (lnW S.part) w.heap.size w' s e ∧ PA B w' q pv' wv { S with part := [] } ∧ Mv w w' q pv wv pv' wv := by
  have hsl : ∀ W, Below W.heap.size W (W.alloc (.cells #[.slice none 0 0, .string ⟨#[]⟩] 47)) := fun W => (Below.refl _ _).alloc (Nat.le_refl _) _
  have HSL : Hid _ := hsl
  have HE : Hid _ := endedLine_any B q pv wv S hn _ (h.on (hsl w))
  have HA : Hid _ := h
  have HL : Hid _ := hL
  obtain ⟨t, ht⟩ : ∃ t, strB (eol S.part) = t := ⟨_, rfl⟩
  have htl : t.size ≤ 1073741824 := by rw [← ht, strB_size]; exact Nat.le_trans (eol_len _) hn
  have HT : Hid (SP.sp (t.size + 1) [] t.data.toList = lnW S.part) := by show _ = _; unfold lnW; rw [← ht, strB_size, strB_list]
  have HTT : Hid _ := ht
  have hq : q < w.heap.size := row_lt h.row
  have HMA : Hid (Mv w (w.alloc (.cells #[.slice none 0 0, .string ⟨#[]⟩] 47)) q pv wv pv wv) := mv_bel (hsl w)
  have HBP : Hid (∀ g, pv.ownBlock = some g → g < w.heap.size) := fun g hg => by obtain ⟨cur, hc⟩ := own_ty h.po g hg; exact row_lt hc
  have HBW : Hid (∀ g, wv.ownBlock = some g → g < w.heap.size) := fun g hg => by obtain ⟨cur, hc⟩ := own_ty h.wo g hg; exact row_lt hc
  clear hn h ht hsl hL
  go_enter Tryz.func50, Tryz.ntmps50
  go_wp2_with fail
  refine (show Calls _ _ _ _ _ from HE.out).mono ?_
  rintro e w1 ⟨rfl, pv1, hp1, hm1⟩
  rw [HTT.out]
  have hb1 := hm1.below (HA.out.on (HSL.out w))
  have hrow : w1.heap[w.heap.size]? = some (.cells #[.slice none 0 0, .string ⟨#[]⟩] 47) := by
    refine (hm1.block w.heap.size (by rw [World.size_alloc]; omega) (by omega) (fun e => ?_) (fun e => ?_)).trans (one_alloc _ _)
    · have := HBP.out _ e; omega
    · have := HBW.out _ e; omega
  have HRW : Hid _ := hrow
  have HP1 : Hid _ := hp1
  have HM1 : Hid _ := HMA.out.trans hm1
  have HB1 : Hid (Below B w w1) := HM1.out.below HA.out
  have hsz1 : w.heap.size < w1.heap.size := row_lt hrow
  clear hp1 hm1 hb1 hrow
  go_wp2_with fail
  refine (split_any t htl w1 (HL.out _ HB1.out)).mono ?_
  rintro e w2 ⟨hor, hb2⟩
  have HP2 : Hid _ := HP1.out.on hb2
  have HM2 : Hid _ := HM1.out.trans (mv_bel hb2)
  have HR2 : Hid _ := keep_row HRW.out hb2
  have hsz2 : w.heap.size < w2.heap.size := Nat.lt_of_lt_of_le hsz1 hb2.size
  clear hb2
  rcases hor with ⟨out, P, c, hsp, rfl, hown⟩ | ⟨hsp, rfl⟩
  · rw [HT.out] at hsp
    have HN : Hid _ := hsp
    obtain ⟨no, hno⟩ : ∃ no, out.length = no := ⟨_, rfl⟩
    rw [hno] at hown
    have HNO : Hid _ := hno
    have HOW : Hid (w2.ownsRow w1.heap.size 9 1 (.slice P no c) no (strS out)) := hown
    rw [hno]
    obtain ⟨z0, z1, zf⟩ := prow2 HR2.out
    by_cases h0 : out = []
    · subst h0
      have : no = 0 := by rw [← hno]; rfl
      subst this
      clear hsp hown hno
      go_wp2
      obtain ⟨W9, hW9⟩ : ∃ W, W = (w2.setCell ⟨w.heap.size, 0, none⟩ (.slice none 0 0)).setCell ⟨w.heap.size, 1, none⟩ (.string ⟨#[]⟩) := ⟨_, rfl⟩
      rw [← hW9]
      obtain ⟨hr9, ho9⟩ := heap_set2 w2 w.heap.size 47 _ _ (.slice none 0 0) (.string ⟨#[]⟩) HR2.out
      rw [← hW9] at hr9 ho9
      obtain ⟨y0, y1, yf⟩ := prow2 hr9
      have HP9 : Hid _ := HP2.out.side HR2.out ho9
      have HM9 : Hid _ := HM2.out.side ho9 (Nat.le_refl _)
      have HO9 : Hid _ := ho9
      clear hr9 hW9 z0 z1 zf ho9
      refine bodyPost_ret (v := .tuple #[.string s, .agg #[.slice none 0 0, .string ⟨#[]⟩], .int .i64 1]) (by simp [results, Tryz.results50, go_sem, y0, y1]) rfl ⟨_, ?_, HP9.out, HM9.out⟩
      rw [HN.out]
      rfl
    · have HNE : Hid _ := h0
      have h1 : ¬ no = 0 := by rw [← hno]; exact fun e => h0 (List.length_eq_zero_iff.mp e)
      have h2 : ¬ ((no : Int) = 0) := by omega
      clear hsp hown hno h0
      go_wp2
      obtain ⟨W9, hW9⟩ : ∃ W, W = (w2.setCell ⟨w.heap.size, 0, none⟩ (.slice P no c)).setCell ⟨w.heap.size, 1, none⟩ (.string ⟨#[]⟩) := ⟨_, rfl⟩
      rw [← hW9]
      obtain ⟨hr9, ho9⟩ := heap_set2 w2 w.heap.size 47 _ _ (.slice P no c) (.string ⟨#[]⟩) HR2.out
      rw [← hW9] at hr9 ho9
      obtain ⟨y0, y1, yf⟩ := prow2 hr9
      have HP9 : Hid _ := HP2.out.side HR2.out ho9
      have HM9 : Hid _ := HM2.out.side ho9 (Nat.le_refl _)
      have HO9 : Hid _ := ho9
      clear hr9 hW9 z0 z1 zf ho9
      refine bodyPost_ret (v := .tuple #[.string s, .agg #[.slice P no c, .string ⟨#[]⟩], .int .i64 2]) (by simp [results, Tryz.results50, go_sem, y0, y1]) rfl ⟨_, ?_, HP9.out, HM9.out⟩
      rw [HN.out, lnIs_some HNE.out, HNO.out]
      exact ⟨P, c, rfl, own_stays (own_lower HOW.out (by omega)) (fun g hg => HO9.out.other g (by have := own_block HOW.out g hg; omega))⟩
  · rw [HT.out] at hsp
    have HN : Hid _ := hsp
    clear hsp
    go_wp2_with fail
    refine (stop_fault badLine (by decide) _).mono ?_
    rintro e w3 ⟨rfl, hb3⟩
    have HP3 : Hid _ := HP2.out.on hb3
    have HM3 : Hid _ := HM2.out.trans (mv_bel hb3)
    have HR3 : Hid _ := keep_row HR2.out hb3
    obtain ⟨z0, z1, zf⟩ := prow2 HR3.out
    clear hb3
    go_wp2
    obtain ⟨W9, hW9⟩ : ∃ W, W = (w3.setCell ⟨w.heap.size, 0, none⟩ (.slice none 0 0)).setCell ⟨w.heap.size, 1, none⟩ (.string badLine) := ⟨_, rfl⟩
    rw [← hW9]
    obtain ⟨hr9, ho9⟩ := heap_set2 w3 w.heap.size 47 _ _ (.slice none 0 0) (.string badLine) HR3.out
    rw [← hW9] at hr9 ho9
    obtain ⟨y0, y1, yf⟩ := prow2 hr9
    have HP9 : Hid _ := HP3.out.side HR3.out ho9
    have HM9 : Hid _ := HM3.out.side ho9 (Nat.le_refl _)
    have HO9 : Hid _ := ho9
    clear hr9 hW9 z0 z1 zf ho9
    refine bodyPost_ret (v := .tuple #[.string ⟨#[]⟩, .agg #[.slice none 0 0, .string badLine], .int .i64 2]) (by simp [results, Tryz.results50, go_sem, y0, y1]) rfl ⟨_, ?_, HP9.out, HM9.out⟩
    rw [HN.out]
    rfl
end Go.Proofs.YtnfbaeajalnmmaaGreatDoor
namespace Go.Proofs.YtnfbaeajalnmmaaGreatDoor
open Go.RowKit Vi
set_option linter.unusedVariables false
set_option linter.unusedSimpArgs false
/-- as Q; by a goto to a label: what holds there. -/
def jumps (J : Nat → Act → World → Prop) (Q : Exit → Act → World → Prop) : Exit → Act → World → Prop
  | .goto l, a, w => J l a w
  | e, a, w => Q e a w
theorem jumps_normal {J : Nat → Act → World → Prop} {Q : Exit → Act → World → Prop} {a : Act} {w : World} : jumps J Q .normal a w = Q .normal a w := rfl
theorem jumps_ret {J : Nat → Act → World → Prop} {Q : Exit → Act → World → Prop} {a : Act} {w : World} : jumps J Q .ret a w = Q .ret a w := rfl
theorem jumps_goto {J : Nat → Act → World → Prop} {Q : Exit → Act → World → Prop} {a : Act} {w : World} {l : Nat} : jumps J Q (.goto l) a w = J l a w := rfl
/-- a scope with several labels. -/
theorem wp_scope_labels {P : Program} {a : Act} {w : World} {Q : Exit → Act → World → Prop} {c : Code} (rest : Nat → Code) (J : Nat → Act → World → Prop) (m : Nat → Act → World → Nat) (hf : ∀ l a w, J l a w → findLabel c l = some (rest l))
    (first : c.wp P (jumps J Q) a w)
    (pass : ∀ l a w, J l a w → (rest l).wp P (jumps (fun l' a' w' => J l' a' w' ∧ m l' a' w' < m l a w) Q) a w) : (Code.scope c).wp P Q a w := by
  intro b k cs
  have hg : ∀ l a w, J l a w → gotoIn l (.inScope c :: k) = some (.code (rest l) :: .inScope c :: k) := fun l a w h => by simp [gotoIn, hf l a w h]
  have key : ∀ n l a w, m l a w = n → J l a w → ∃ e a' w', Q e a' w' ∧ Arrives P (lone (b.at a (.code (rest l) :: .inScope c :: k)) cs w) b k cs e a' w' := by
    intro n
    induction n using Nat.strongRecOn with
    | _ n ih =>
      intro l a w hn hJ
      obtain ⟨e, a₁, w₁, hq, harr⟩ := pass l a w hJ b (.inScope c :: k) cs
      cases e with
      | normal => exact ⟨.normal, a₁, w₁, hq, Steps.trans harr (.one step_inScope)⟩
      | exit id => exact ⟨.exit id, a₁, w₁, hq, fun k' hk => harr k' (by simp [exitTo, hk])⟩
      | goto l' =>
        obtain ⟨hJ', hlt⟩ := hq
        obtain ⟨e₂, a₂, w₂, hq₂, harr₂⟩ := ih _ (by omega) l' a₁ w₁ rfl hJ'
        exact ⟨e₂, a₂, w₂, hq₂, .of_steps (harr _ (hg _ _ _ hJ')) harr₂⟩
      | ret => exact ⟨_, a₁, w₁, hq, harr⟩
      | panic ch => exact ⟨_, a₁, w₁, hq, harr⟩
      | outgrown => exact ⟨_, a₁, w₁, hq, harr⟩
  obtain ⟨e, a₁, w₁, hq, harr⟩ := first b (.inScope c :: k) cs
  cases e with
  | normal => exact ⟨.normal, a₁, w₁, hq, .head step_scope (Steps.trans harr (.one step_inScope))⟩
  | exit id => exact ⟨.exit id, a₁, w₁, hq, fun k' hk => .head step_scope (harr k' (by simp [exitTo, hk]))⟩
  | goto l' =>
    obtain ⟨e₂, a₂, w₂, hq₂, harr₂⟩ := key _ l' a₁ w₁ rfl hq
    exact ⟨e₂, a₂, w₂, hq₂, .of_steps (.head step_scope (harr _ (hg _ _ _ hq))) harr₂⟩
  | ret => exact ⟨_, a₁, w₁, hq, .of_steps (.one step_scope) harr⟩
  | panic ch => exact ⟨_, a₁, w₁, hq, .of_steps (.one step_scope) harr⟩
  | outgrown => exact ⟨_, a₁, w₁, hq, .of_steps (.one step_scope) harr⟩
/-- the body of read, as the scope holds it, and what is behind its labels. -/
def scopeIn (f : Func) : Code := match f.body with
  | some (.seq _ (.scope c)) => c
  | _ => .skip
def scopeTo (f : Func) (l : Nat) : Code := (findLabel (scopeIn f) l).getD .skip
/-- what is behind a label, without the mark. -/
def scopeTl (f : Func) (l : Nat) : Code := match scopeTo f l with
  | .seq _ c => c
  | c => c
theorem rd_to (l : Nat) (h : l < 5) : findLabel (scopeIn Tryz.f25) l = some (scopeTo Tryz.f25 l) := by
  match l, h with
  | 0, _ => show findLabel (scopeIn Tryz.f25) 0 = some (scopeTo Tryz.f25 0); rfl
  | 1, _ => rfl
  | 2, _ => rfl
  | 3, _ => rfl
  | 4, _ => rfl
/-- the frame of read at a label: the parser, the bytes that are left, the request that is told; the rest is as it comes. -/
def Fr (q : Nat) (s : ByteArray) (r : Nat) (u : Nat → Value) : Act := { tmps := #[Value.pointer (some ⟨q, 0, none⟩), Value.string s, u 2, u 3, u 4, Value.pointer (some ⟨r, 0, none⟩), u 6, u 7, u 8, u 9, u 10, u 11, u 12, u 13, u 14, u 15, u 16, u 17, u 18, u 19, u 20, u 21, u 22, u 23, u 24, u 25, u 26, u 27, u 28, u 29, u 30, u 31, u 32, u 33, u 34, u 35, u 36, u 37, u 38, u 39, u 40, u 41, u 42, u 43, u 44, u 45, u 46, u 47, u 48, u 49, u 50, u 51, u 52, u 53, u 54, u 55, u 56, u 57, u 58, u 59, u 60, u 61, u 62, u 63, u 64, u 65, u 66, u 67, u 68, u 69, u 70, u 71, u 72, u 73, u 74, u 75, u 76, u 77, u 78, u 79, u 80, u 81, u 82, u 83, u 84, u 85, u 86, u 87, u 88, u 89, u 90, u 91, u 92, u 93, u 94, u 95, u 96, u 97, u 98, u 99, u 100, u 101, u 102, u 103, u 104, u 105, u 106, u 107, u 108, u 109, u 110, u 111, u 112, u 113, u 114, u 115, u 116, u 117, u 118, u 119, u 120, u 121, u 122, u 123, u 124, u 125, u 126, u 127, u 128, u 129, u 130, u 131, u 132, u 133, u 134, u 135, u 136, u 137, u 138, u 139, u 140, u 141, u 142, u 143, u 144, u 145], defers := [] }
theorem tl_to {l : Nat} (h : l < 5) {Q : Exit → Act → World → Prop} {a : Act} {w : World} (hw : (scopeTl Tryz.f25 l).wp Tryz.prog Q a w) : (scopeTo Tryz.f25 l).wp Tryz.prog Q a w := by
  have e : scopeTo Tryz.f25 l = .seq .skip (scopeTl Tryz.f25 l) := by
    match l, h with
    | 0, _ => rfl
    | 1, _ => rfl
    | 2, _ => rfl
    | 3, _ => rfl
    | 4, _ => rfl
  rw [e]
  exact wp_seq (wp_skip hw)
def IsFr (a : Act) (q : Nat) (s : ByteArray) (r : Nat) : Prop := a = Fr q s r (fun k => a.tmps.getD k undef)
theorem IsFr.get {a : Act} {q : Nat} {s : ByteArray} {r : Nat} (h : IsFr a q s r) : ∃ u, a = Fr q s r u := ⟨_, h⟩
end Go.Proofs.YtnfbaeajalnmmaaGreatDoor
namespace Go.Proofs.YtnfbaeajalnmmaaGreatDoor
open Go.RowKit Vi
set_option linter.unusedVariables false
set_option linter.unusedSimpArgs false
/-- what read answers, as plain data: the parser then, the bytes that are left, the words, the error, what has become of the request. -/
structure RO where
  S : PS
  rest : SP.Bs
  args : List SP.Bs
  err : SP.Bs
  k : Int
/-- read has answered so. -/
def RdIs (B : Nat) (w0 w' : World) (q : Nat) (pv0 wv0 : Value) (e : Ending) (R : RO) : Prop := ∃ pv' wv' av, PA B w' q pv' wv' R.S ∧ Mv w0 w' q pv0 wv0 pv' wv' ∧ e = .returned (.tuple #[.string (strB R.rest), .agg #[av, .string (strB R.err)], .int .i64 R.k]) ∧ w'.ownsRow B 9 1 av R.args.length (strS R.args)
theorem PA.st0 {B : Nat} {w : World} {q : Nat} {pv wv : Value} {S : PS} (h : PA B w q pv wv S) (k : Nat) : PA B (w.setCell ⟨q, 0, none⟩ (.int .i64 (k : Int))) q pv wv { S with st := k } ∧ Mv w (w.setCell ⟨q, 0, none⟩ (.int .i64 (k : Int))) q pv wv pv wv := by
  have ho : Only w (w.setCell ⟨q, 0, none⟩ (.int .i64 (k : Int))) q := (Only.refl _ _).set _ _
  refine ⟨h.cells ho ?_ rfl rfl, mv_only ho rfl rfl⟩
  have := h.row
  unfold PrR at this ⊢
  rw [heap_setCell_same _ _ _ _ _ _ this]; rfl
/-- the request that read tells stays. -/
theorem Mv.req {B : Nat} {W W' : World} {q r : Nat} {pv wv pv' wv' : Value} {S : PS} {cs : Array Value} (h : Mv W W' q pv wv pv' wv') (hp : PA B W q pv wv S) (hr : W.heap[r]? = some (.cells cs 47)) : W'.heap[r]? = some (.cells cs 47) := by
  refine (h.block r (row_lt hr) (fun e => ?_) (fun e => ?_) (fun e => ?_)).trans hr
  · have := hp.row
    unfold PrR at this
    rw [← e, hr] at this
    injection this with this
    injection this with _ h2 _
    exact absurd h2 (by decide)
  · obtain ⟨cur, hc⟩ := own_ty hp.po r e
    rw [hr] at hc
    injection hc with hc
    injection hc with _ h2 _
    exact absurd h2 (by decide)
  · obtain ⟨cur, hc⟩ := own_ty hp.wo r e
    rw [hr] at hc
    injection hc with hc
    injection hc with _ h2 _
    exact absurd h2 (by decide)
/-- read returns. -/
theorem rd_fin (B q r : Nat) (pv0 wv0 pv wv : Value) (w0 W : World) (R : RO) (x y : Value) (hP : PA B W q pv wv R.S) (hM : Mv w0 W q pv0 wv0 pv wv) (hr0 : w0.heap.size ≤ r) (hr : W.heap[r]? = some (.cells #[x, y] 47)) (av : Value) (rest err : ByteArray) (k : Int) (h1 : strB R.rest = rest) (h2 : strB R.err = err) (h3 : R.k = k) (ho : W.ownsRow B 9 1 av R.args.length (strS R.args))
    (a : Act) (hdf : a.defers = []) (h4 : a.tmps.getD 4 undef = .string rest) (h5 : a.tmps.getD 5 undef = .pointer (some ⟨r, 0, none⟩)) (h6 : a.tmps.getD 6 undef = .int .i64 k) (post : Ending → World → Prop) (J : Nat → Act → World → Prop) (hpost : ∀ e w', RdIs B w0 w' q pv0 wv0 e R → post e w') :
    jumps J (bodyPost Tryz.prog Tryz.f25 post) .ret a ((W.setCell ⟨r, 0, none⟩ av).setCell ⟨r, 1, none⟩ (.string err)) := by
  rw [jumps_ret]
  obtain ⟨hr9, ho9⟩ := heap_set2 W r 47 _ _ av (.string err) hr
  obtain ⟨y0, y1, yf⟩ := prow2 hr9
  have hok : ∀ g, av.ownBlock = some g → ((W.setCell ⟨r, 0, none⟩ av).setCell ⟨r, 1, none⟩ (.string err)).heap[g]? = W.heap[g]? := fun g hg => ho9.other g (fun e => by
    obtain ⟨cur, hc⟩ := own_ty ho g hg
    rw [e, hr] at hc
    injection hc with hc
    injection hc with _ h2 _
    exact absurd h2 (by decide))
  generalize (W.setCell ⟨r, 0, none⟩ av).setCell ⟨r, 1, none⟩ (.string err) = W9 at *
  refine bodyPost_ret (v := .tuple #[.string rest, .agg #[av, .string err], .int .i64 k]) ?_ hdf (hpost _ _ ⟨pv, wv, av, hP.side hr ho9, hM.side ho9 hr0, by rw [h1, h2, h3], own_stays ho hok⟩)
  rw [Array.getD_eq_getD_getElem?] at h4 h5 h6
  simp [results, Tryz.results25, go_sem, y0, y1, h4, h5, h6]
end Go.Proofs.YtnfbaeajalnmmaaGreatDoor
