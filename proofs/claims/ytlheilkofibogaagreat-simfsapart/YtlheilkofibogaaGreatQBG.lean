import Derived.Test.YtlheilkofibogaaGreatQBF
import Derived.Test.YtlheilkofibogaaGreatQAM
import Derived.Test.YtlheilkofibogaaGreatShE
import Derived.Test.YtlheilkofibogaaGreatQAZ
namespace Go.Proofs.YtlheilkofibogaaGreat
open Go.RowKit Go.Maps
set_option linter.unusedVariables false
set_option linter.unusedSimpArgs false
theorem ps_fl (ps : List ByteArray) : psE.fl ps = ps.map Value.string := by
  unfold ET.fl
  induction ps with
  | nil => rfl
  | cons x p ih => rw [List.flatMap_cons, ih]; rfl
theorem cloneS_any (v : Value) (ps : List ByteArray) (hl : ps.length ≤ 4398046511104) (w : World) (h : w.ownsRow 0 9 1 v ps.length (psE.fl ps)) : Calls Tryz.prog 72 #[v] w fun e w' => ∃ P c, e = .returned (.slice P ps.length c) ∧ w'.ownsRow w.heap.size 9 1 (.slice P ps.length c) ps.length (psE.fl ps) ∧ Below w.heap.size w w' := by
  rcases KR.own (E := psE) h rfl with ⟨hn, p, c, rfl, hpc⟩ | ⟨g, o, c, rfl, hc⟩
  · subst hn
    cases p with
    | none => exact (Tryz.slices_Clone_string_nil 0 c w).mono (fun e w' h => ⟨none, 0, h.1, ⟨rfl, Or.inl ⟨rfl, rfl⟩⟩, by rw [h.2]; exact Below.refl _ _⟩)
    | some a => exact (Tryz.slices_Clone_string_zero a c w).mono (fun e w' h => by
        obtain ⟨v', h1, h2, _, h4⟩ := h
        obtain ⟨P, c, rfl⟩ := own_form h2
        exact ⟨P, c, h1, h2, h4⟩)
  · refine (Tryz.slices_Clone_string g o ps.length c ps w (Nat.le_refl _) (by omega) (fun j hj => ?_)).mono (fun e w' h => ?_)
    · refine hc j _ ?_
      rw [ps_fl, List.getElem?_map, List.getElem?_eq_getElem hj]
      simp [List.getD, List.getElem?_eq_getElem hj]
    · obtain ⟨v', h1, h2, _, h4⟩ := h
      rw [List.take_length] at h2
      obtain ⟨P, c', rfl⟩ := own_form h2
      exact ⟨P, c', h1, by rw [ps_fl]; exact h2, h4⟩
theorem szFi : (Tryz.prog.info? 90).map (·.size) = some 4 := by kernel_rfl
theorem ldFi {ops : Array Oper} {rest : List Oper} {op : Oper} {a : Act} {w : World} {Q : Exit → Act → World → Prop} (C : Array Value) (r : Nat) (x : Operand) (hg : op.guard = none) (ho : op.op = .load 90 x) (hx : a.eval x = .pointer (some ⟨r, 0, none⟩)) (hc : w.heap[r]? = some (.cells C 90)) (h4 : C.size = 4) (h : wpList Tryz.prog ops Q rest (a.put op.dst (.agg C)) w) : wpList Tryz.prog ops Q (op :: rest) a w := by
  refine wpList_load_mid hg _ x ho r 0 hx C.toList _ (fun j v hv => by rw [cell_of_row _ _ _ _ _ _ hc]; simpa using hv) Tryz.underlying90 rfl (by rw [Array.length_toList, h4]; exact szFi) ?_
  rw [Array.toArray_toList]
  exact h
theorem stFi {ops : Array Oper} {rest : List Oper} {op : Oper} {a : Act} {w : World} {Q : Exit → Act → World → Prop} (hg : op.guard = none) (x y : Operand) (ho : op.op = .store 90 x y) (g : Nat) (C Z : Array Value) (hx : a.eval x = .pointer (some ⟨g, 0, none⟩)) (hy : a.eval y = .agg C) (h4 : C.size = 4) (h1 : C.all (·.oneCell') = true) (hZ : Z.size = 4) (hr : w.heap[g]? = some (.cells Z 90)) (h : ∀ W, W.heap[g]? = some (.cells C 90) → Only w W g → wpList Tryz.prog ops Q rest (a.put op.dst undef) W) : wpList Tryz.prog ops Q (op :: rest) a w := by
  refine wpList_store_mid hg 90 x y ho g 0 C hx hy ?_ (by rw [h4]; exact szFi) h1 ?_
  · intro j hj
    rw [h4] at hj
    refine ⟨?_, frozen_of_row _ _ _ _ _ hr⟩
    rw [cell_of_row _ _ _ _ _ _ hr]
    simp; omega
  have h3 := setCellsQ g 90 C.toList [] Z.toList w (by simp [h4, hZ]) (by simpa using hr)
  rw [List.length_nil] at h3
  simp only [List.nil_append, Array.toArray_toList] at h3
  exact h _ h3.1 h3.2
def zFi : Array Value := #[.int .i64 0, .slice none 0 0, .int .i64 0, .int .i64 0]
theorem alFi {ops : Array Oper} {rest : List Oper} {op : Oper} {a : Act} {w : World} {Q : Exit → Act → World → Prop} (hg : op.guard = none) (ho : op.op = .alloc 90) (Z : Array Value) (hZ : Z = zFi) (h : wpList Tryz.prog ops Q rest (a.put op.dst (.pointer (some ⟨w.heap.size, 0, none⟩))) (w.alloc (.cells Z 90))) : wpList Tryz.prog ops Q (op :: rest) a w := by
  subst hZ
  refine wpList_plain hg fun K hK => ?_
  unfold Oper.wp
  have : (execOp a.eval op).run Tryz.prog w = .ok (.value (.pointer (some ⟨w.heap.size, 0, none⟩))) (w.alloc (.cells zFi 90)) := by
    unfold execOp
    rw [ho]
    kernel_rfl
  rw [this]
  exact hK _ _ h
theorem TwM.to {W W' : World} {mb : Nat} {L : List (Nat × Nat)} (h : TwM W mb L) (hb : Below W.heap.size W W') : TwM W' mb L := by
  obtain ⟨⟨es, clock, h1, h2⟩, hf⟩ := h
  refine ⟨⟨es, clock, (hb.block mb (row_lt h1)).trans h1, h2⟩, fun y hy => ?_⟩
  obtain ⟨cs, t, h3⟩ := hf y hy
  exact ⟨cs, t, (hb.block _ (row_lt h3)).trans h3⟩
theorem FileAt.filB {W : World} {b i : Nat} {x : Fi} {pv : Value} {ps : List ByteArray} (h : FileAt W b i x pv ps) : FilB W b := ⟨_, _, h.blk⟩
theorem lookL_new (L : List (Nat × Nat)) (a r : Nat) (h : lookL a L = none) : lookL a (L ++ [(a, r)]) = some r := by
  unfold lookL at *
  have hn : L.find? (fun y => decide (y.1 = a)) = none := by cases hq : L.find? (fun y => decide (y.1 = a)) with | none => rfl | some z => rw [hq] at h; cases h
  rw [List.find?_append, hn]
  simp
set_option maxHeartbeats 1000000 in
set_option maxRecDepth 20000 in
/-- A twin that is there already. -/
theorem twin_old (a b mb : Nat) (L : List (Nat × Nat)) (w : World) (ha : FilB w a) (hm : TwM w mb L) (hl : lookL a L = some b) : Calls Tryz.prog 32 #[ptr (some a), .map (some mb)] w fun e w' => e = .returned (ptr (some b)) ∧ w' = w := by
  have hk := hm.look ha
  rw [hl] at hk
  have hk' : (Instr.lookup 70 (.map (some mb)) (.pointer (some ⟨a, 0, none⟩)) false).run Tryz.prog w = .ok (.pointer (some ⟨b, 0, none⟩)) w := hk
  clear ha hm hl hk
  show Calls Tryz.prog 32 #[.pointer (some ⟨a, 0, none⟩), .map (some mb)] w _
  go_enter Tryz.func32, Tryz.ntmps32
  go_wp2
  go_returns
  exact ⟨rfl, rfl⟩
/-- A new twin. -/
def TwinP (w : World) (i : Nat) (x : Fi) (ps : List ByteArray) (a mb : Nat) (L : List (Nat × Nat)) (e : Ending) (w' : World) : Prop := ∃ R pv', e = .returned (ptr (some R)) ∧ w.heap.size ≤ R ∧ FileAt w' R i x pv' ps ∧ (∀ k, pv'.ownBlock = some k → w.heap.size ≤ k) ∧ TwM w' mb (L ++ [(a, R)]) ∧ ModP (fun k => k = mb) w w'
set_option maxHeartbeats 4000000 in
set_option maxRecDepth 100000 in
theorem twin_new (a i mb : Nat) (x : Fi) (pv : Value) (ps : List ByteArray) (L : List (Nat × Nat)) (w : World) (hf : FileAt w a i x pv ps) (hm : TwM w mb L) (hl : lookL a L = none) : Calls Tryz.prog 32 #[ptr (some a), .map (some mb)] w fun e w' => TwinP w i x ps a mb L e w' := by
  have hk := hm.look hf.filB
  rw [hl] at hk
  obtain ⟨PV, cv, hpv⟩ := own_form hf.own
  subst hpv
  obtain ⟨C, hC⟩ : ∃ C : Array Value, C = #[.int .i64 ((i + 1 : Nat) : Int), .slice PV ps.length cv, .int .i64 (x.d.size : Int), .int .i64 (x.s : Int)] := ⟨_, rfl⟩
  have HC : Hid (C = #[.int .i64 ((i + 1 : Nat) : Int), .slice PV ps.length cv, .int .i64 (x.d.size : Int), .int .i64 (x.s : Int)]) := hC
  have HCS : Hid (C.size = 4) := by show _ = _; rw [hC]; rfl
  have HC1 : Hid (C.all (·.oneCell') = true) := by
    show _ = _
    rw [hC]
    simp only [List.all_toArray, List.all_cons, List.all_nil, Bool.and_true]
    rfl
  have HCB : Hid (w.heap[a]? = some (.cells C 90)) := by show _ = _; rw [hC]; exact hf.blk
  obtain ⟨Z, hZ⟩ : ∃ Z, Z = zFi := ⟨_, rfl⟩
  have HZ : Hid (Z = zFi) := hZ
  have HZS : Hid (Z.size = 4) := by show _ = _; rw [hZ]; rfl
  have HF : Hid (FileAt w a i x (.slice PV ps.length cv) ps) := hf
  have HM : Hid (TwM w mb L) := hm
  have HLK : Hid (lookL a L = none) := hl
  have hk0 : (Instr.lookup 70 (.map (some mb)) (.pointer (some ⟨a, 0, none⟩)) false).run Tryz.prog w = .ok (.pointer none) w := hk
  clear hf hm hl hC hZ hk
  show Calls Tryz.prog 32 #[.pointer (some ⟨a, 0, none⟩), .map (some mb)] w _
  go_enter Tryz.func32, Tryz.ntmps32
  go_upto_region 3 with (first
    | (refine ldFi C a _ rfl rfl rfl HCB.out HCS.out ?_)
    | (refine alFi rfl rfl Z HZ.out ?_)
    | (refine stFi rfl _ _ rfl w.heap.size C Z rfl rfl HCS.out HC1.out HZS.out (one_alloc _ _) ?_; intro Wo hro hoo))
  have hbo : Below w.heap.size w Wo := ((Below.refl _ w).alloc (Nat.le_refl _) _).trans (hoo.below (Nat.le_refl _))
  obtain ⟨R, hR⟩ : ∃ R, w.heap.size = R := ⟨_, rfl⟩
  have HRR : Hid (w.heap.size = R) := hR
  rw [hR] at hro
  rw [hR]
  have HRO : Hid (Wo.heap[R]? = some (.cells C 90)) := hro
  have HBO : Hid (Below w.heap.size w Wo) := hbo
  have HFO : Hid (FileAt Wo a i x (.slice PV ps.length cv) ps) := HF.out.to (hbo.block a (row_lt HF.out.blk)) (fun k hk => hbo.block k (own_lt HF.out.own hk))
  obtain ⟨_, d1, _, _, _⟩ := file_cells HFO.out.blk
  have HCL : Hid _ := cloneS_any (.slice PV ps.length cv) ps (by have := HF.out.few; have := HF.out.big; omega) Wo HFO.out.own
  clear hk0 hbo hoo hro hR
  go_wp2_with fail
  refine (show Calls _ _ _ _ _ from HCL.out).mono ?_
  rintro e w2 ⟨P2, c2, rfl, ho2, hb2⟩
  have hr2 : w2.heap[R]? = some (.cells C 90) := keep_row HRO.out hb2
  rw [HC.out] at hr2
  obtain ⟨_, z1, _, _, zf⟩ := file_cells hr2
  have zf1 := zf 1
  obtain ⟨W3, hW3⟩ : ∃ W3, w2.setCell ⟨R, 1, none⟩ (.slice P2 ps.length c2) = W3 := ⟨_, rfl⟩
  have hr3 : W3.heap[R]? = some (.cells #[.int .i64 ((i + 1 : Nat) : Int), .slice P2 ps.length c2, .int .i64 (x.d.size : Int), .int .i64 (x.s : Int)] 90) := by rw [← hW3]; exact heap_setCell_same w2 R 1 _ _ _ hr2
  have hon3 : Only w2 W3 R := by rw [← hW3]; exact (Only.refl _ _).set _ _
  have hge2 : ∀ k, (Value.slice P2 ps.length c2).ownBlock = some k → Wo.heap.size ≤ k := fun k hk => (World.ownsRow.lt ho2 k hk).1
  have hRlt : R < Wo.heap.size := row_lt HRO.out
  have ho3 : W3.ownsRow 0 9 1 (.slice P2 ps.length c2) ps.length (psE.fl ps) := own_to (own_zero' ho2) (fun k hk => hon3.other k (fun e => by have := hge2 k hk; omega))
  have HF3 : Hid (FileAt W3 R i x (.slice P2 ps.length c2) ps) := ⟨hr3, ho3, HF.out.jn, HF.out.few, HF.out.big, HF.out.sf⟩
  have hb3 : Below w.heap.size w W3 := (HBO.out.trans (hb2.mono HBO.out.size)).trans (hon3.below (by rw [HRR.out]; exact Nat.le_refl _))
  have HB3 : Hid (Below w.heap.size w W3) := hb3
  have hfa : FilB W3 a := by
    obtain ⟨cs, t, h⟩ := HF.out.filB
    exact ⟨cs, t, (hb3.block a (row_lt h)).trans h⟩
  have hm3 : TwM W3 mb L := HM.out.to hb3
  obtain ⟨W4, hput, hm4, ho4⟩ := hm3.put hfa HLK.out R
  have hk4 := hm4.look (x := a) (by
    obtain ⟨cs, t, h⟩ := hfa
    exact ⟨cs, t, (ho4.other a (fun e => by subst e; obtain ⟨es, ck, h5, _⟩ := hm3.ob; rw [h5] at h; cases h)).trans h⟩)
  rw [lookL_new L a R HLK.out] at hk4
  have HM4 : Hid (TwM W4 mb (L ++ [(a, R)])) := hm4
  have HO4 : Hid (Only W3 W4 mb) := ho4
  have hmne : mb ≠ R := fun e => by
    subst e
    obtain ⟨es, ck, h5, _⟩ := hm3.ob
    rw [h5] at hr3; cases hr3
  have HF4 : Hid (FileAt W4 R i x (.slice P2 ps.length c2) ps) := HF3.out.to (ho4.other R (fun e => hmne e.symm)) (fun k hk => ho4.other k (fun e => by
    subst e
    obtain ⟨cur, hcu⟩ := own_type ho3 hk
    obtain ⟨es, ck, h5, _⟩ := hm3.ob
    rw [h5] at hcu; cases hcu))
  have HGE : Hid (∀ k, (Value.slice P2 ps.length c2).ownBlock = some k → w.heap.size ≤ k) := fun k hk => by have := hge2 k hk; have := HBO.out.size; omega
  have HMD : Hid (ModP (fun k => k = mb) w W4) := (ModP.below hb3).trans (ModP.only ho4 rfl)
  have hput' : (Instr.mapUpdate 70 (.map (some mb)) (.pointer (some ⟨a, 0, none⟩)) (.pointer (some ⟨R, 0, none⟩))).run Tryz.prog W3 = .ok () W4 := hput
  have hk5 : (Instr.lookup 70 (.map (some mb)) (.pointer (some ⟨a, 0, none⟩)) false).run Tryz.prog W4 = .ok (.pointer (some ⟨R, 0, none⟩)) W4 := hk4
  clear hput hk4
  clear zf hr3 hon3 hge2 hRlt ho3 hb3 hfa hm3 hm4 ho4 hmne ho2 hb2 hr2 HCL
  go_upto_region 4 with fail
  try rw [hW3]
  clear hW3
  go_wp2
  go_returns
  exact ⟨R, .slice P2 ps.length c2, rfl, by rw [HRR.out]; exact Nat.le_refl _, HF4.out, HGE.out, HM4.out, HMD.out⟩
end Go.Proofs.YtlheilkofibogaaGreat
namespace Go.Proofs.YtlheilkofibogaaGreat
open Go.RowKit Go.Maps
set_option linter.unusedVariables false
set_option linter.unusedSimpArgs false
def twB (Q : List (Nat × Nat × Value)) (i : Nat) : Nat := ((Q.find? fun q => decide (q.1 = i)).map fun q => q.2.1).getD 0
def twV (Q : List (Nat × Nat × Value)) (i : Nat) : Value := ((Q.find? fun q => decide (q.1 = i)).map fun q => q.2.2).getD (.slice none 0 0)
def noneF (i : Nat) (Q : List (Nat × Nat × Value)) : Prop := Q.find? (fun q => decide (q.1 = i)) = none
/-- The twins so far: of which file, which block, which pieces. -/
structure TwI (B : Nat) (W : World) (mb : Nat) (X : Gh) (F : Fs) (Q : List (Nat × Nat × Value)) : Prop where
  tm : TwM W mb (Q.map fun q => (X.fb q.1, q.2.1))
  lv : ∀ q ∈ Q, Live F X q.1
  fl : ∀ q ∈ Q, FileAt W q.2.1 q.1 (F.files.getD q.1 ⟨⟨#[]⟩, 0⟩) q.2.2 (X.ps q.1)
  ge : ∀ q ∈ Q, B ≤ q.2.1 ∧ ∀ k, q.2.2.ownBlock = some k → B ≤ k
  ap : Q.Pairwise fun a b => a.1 ≠ b.1 ∧ a.2.1 ≠ b.2.1 ∧ ∀ k, a.2.2.ownBlock = some k → b.2.2.ownBlock ≠ some k
theorem lookQ {W : World} {g : Nat} {X : Gh} {F : Fs} (h : FsC W g X F) {i : Nat} (hi : Live F X i) : ∀ (Q : List (Nat × Nat × Value)), (∀ q ∈ Q, Live F X q.1) → lookL (X.fb i) (Q.map fun q => (X.fb q.1, q.2.1)) = (Q.find? fun q => decide (q.1 = i)).map fun q => q.2.1
  | [], _ => rfl
  | q :: Q, hQ => by
    have ih := lookQ h hi Q (fun q hq => hQ q (List.mem_cons_of_mem _ hq))
    unfold lookL at *
    rw [List.map_cons, List.find?_cons, List.find?_cons]
    by_cases e : q.1 = i
    · subst e
      simp
    · have h2 : X.fb q.1 ≠ X.fb i := (h.inj _ _ (hQ q (List.mem_cons_self ..)) hi e).1
      rw [decide_eq_false e, decide_eq_false h2]
      exact ih
theorem TwM.block {W : World} {mb : Nat} {L : List (Nat × Nat)} (h : TwM W mb L) {k : Nat} {cs : Array Value} {t : Nat} {fz : Nat × Nat} (hk : W.heap[k]? = some (.cells cs t fz)) : k ≠ mb := fun e => by
  subst e
  obtain ⟨es, ck, h1, _⟩ := h.ob
  rw [h1] at hk
  cases hk
/-- Kept where what is written are maps and iterators. -/
theorem TwI.keep {B mb : Nat} {W W' : World} {X : Gh} {F : Fs} {Q : List (Nat × Nat × Value)} {S : Nat → Prop} (h : TwI B W mb X F Q) (hm : ModP S W W') (hS : ∀ k, S k → k ≠ mb ∧ ∀ cs t fz, W.heap[k]? ≠ some (.cells cs t fz)) : TwI B W' mb X F Q := by
  obtain ⟨⟨⟨es, ck, h1, h2⟩, hf⟩, lv, fl, ge, ap⟩ := h
  refine ⟨⟨⟨es, ck, hm.row h1 (fun hs => (hS _ hs).1 rfl), h2⟩, fun y hy => ?_⟩, lv, fun q hq => ?_, ge, ap⟩
  · obtain ⟨cs, t, h3⟩ := hf y hy
    exact ⟨cs, t, hm.row h3 (fun hs => (hS _ hs).2 _ _ _ h3)⟩
  · have hx := fl q hq
    refine hx.to (hm.oth _ (row_lt hx.blk) (fun hs => (hS _ hs).2 _ _ _ hx.blk)) (fun k hk => ?_)
    obtain ⟨cur, hc⟩ := own_type hx.own hk
    exact hm.oth _ (row_lt hc) (fun hs => (hS _ hs).2 _ _ _ hc)
theorem TwI.on {B mb : Nat} {W W' : World} {X : Gh} {F : Fs} {Q : List (Nat × Nat × Value)} (h : TwI B W mb X F Q) (hb : Below W.heap.size W W') : TwI B W' mb X F Q := h.keep (ModP.below (S := fun _ => False) hb) (fun _ q => q.elim)
theorem find_app {i : Nat} {Q E : List (Nat × Nat × Value)} {q : Nat × Nat × Value} (h : Q.find? (fun q => decide (q.1 = i)) = some q) : (Q ++ E).find? (fun q => decide (q.1 = i)) = some q := by
  rw [List.find?_append, h]; rfl
theorem find_of {i : Nat} {Q : List (Nat × Nat × Value)} (h : ∃ q ∈ Q, q.1 = i) : ∃ q, Q.find? (fun q => decide (q.1 = i)) = some q ∧ q ∈ Q ∧ q.1 = i := by
  cases hq : Q.find? (fun q => decide (q.1 = i)) with
  | none =>
    rw [List.find?_eq_none] at hq
    obtain ⟨q, h1, h2⟩ := h
    exact absurd (decide_eq_true h2) (hq q h1)
  | some q => exact ⟨q, rfl, List.mem_of_find?_eq_some hq, by simpa using List.find?_some hq⟩
theorem twB_app {i : Nat} {Q E : List (Nat × Nat × Value)} (h : ∃ q ∈ Q, q.1 = i) : twB (Q ++ E) i = twB Q i := by
  obtain ⟨q, h1, _⟩ := find_of h
  unfold twB
  rw [find_app h1, h1]
theorem twB_at {i : Nat} {Q : List (Nat × Nat × Value)} {q : Nat × Nat × Value} (h : Q.find? (fun q => decide (q.1 = i)) = some q) : twB Q i = q.2.1 := by unfold twB; rw [h]; rfl
theorem twV_at {i : Nat} {Q : List (Nat × Nat × Value)} {q : Nat × Nat × Value} (h : Q.find? (fun q => decide (q.1 = i)) = some q) : twV Q i = q.2.2 := by unfold twV; rw [h]; rfl
/-- What a twin call comes to. -/
def TwR (B mb : Nat) (X : Gh) (F : Fs) (Q : List (Nat × Nat × Value)) (i : Nat) (w : World) (e : Ending) (w' : World) : Prop := ∃ E, e = .returned (ptr (some (twB (Q ++ E) i))) ∧ TwI B w' mb X F (Q ++ E) ∧ (∃ q ∈ Q ++ E, q.1 = i) ∧ ModP (fun k => k = mb) w w'
theorem twin_any (g i mb B : Nat) (X : Gh) (F : Fs) (Q : List (Nat × Nat × Value)) (w : World) (h : FsC w g X F) (ht : TwI B w mb X F Q) (hB : B ≤ w.heap.size) (hi : Live F X i) : Calls Tryz.prog 32 #[ptr (some (X.fb i)), .map (some mb)] w fun e w' => TwR B mb X F Q i w e w' := by
  have hl := lookQ h hi Q ht.lv
  cases hq : Q.find? (fun q => decide (q.1 = i)) with
  | some q =>
    rw [hq] at hl
    refine (twin_old (X.fb i) q.2.1 mb _ w (h.file hi).filB ht.tm hl).mono ?_
    rintro e w' ⟨rfl, rfl⟩
    refine ⟨[], ?_, by rw [List.append_nil]; exact ht, ?_, ModP.refl _ _⟩
    · rw [List.append_nil, twB_at hq]
    · rw [List.append_nil]
      exact ⟨q, List.mem_of_find?_eq_some hq, by simpa using List.find?_some hq⟩
  | none =>
    rw [hq] at hl
    refine (twin_new (X.fb i) i mb _ _ _ _ w (h.file hi) ht.tm hl).mono ?_
    rintro e w' ⟨R, pv, rfl, hR, hf, hpv, hm, hmd⟩
    have hne : ∀ q ∈ Q, q.1 ≠ i := fun q hq' e => by
      rw [List.find?_eq_none] at hq
      exact hq q hq' (decide_eq_true e)
    have hfi : (Q ++ [(i, R, pv)]).find? (fun q => decide (q.1 = i)) = some (i, R, pv) := by
      rw [List.find?_append, hq]
      simp
    refine ⟨[(i, R, pv)], by rw [twB_at hfi], ⟨by rw [List.map_append]; exact hm, fun q hq' => ?_, fun q hq' => ?_, fun q hq' => ?_, ?_⟩, ⟨(i, R, pv), by simp, rfl⟩, hmd⟩
    · rcases List.mem_append.1 hq' with h1 | h1
      · exact ht.lv q h1
      · obtain rfl := List.mem_singleton.1 h1
        exact hi
    · rcases List.mem_append.1 hq' with h1 | h1
      · have hx := ht.fl q h1
        refine hx.to (hmd.oth _ (row_lt hx.blk) (ht.tm.block hx.blk)) (fun k hk => ?_)
        obtain ⟨cur, hc⟩ := own_type hx.own hk
        exact hmd.oth _ (row_lt hc) (ht.tm.block hc)
      · obtain rfl := List.mem_singleton.1 h1
        exact hf
    · rcases List.mem_append.1 hq' with h1 | h1
      · exact ht.ge q h1
      · obtain rfl := List.mem_singleton.1 h1
        exact ⟨Nat.le_trans hB hR, fun k hk => Nat.le_trans hB (hpv k hk)⟩
    · rw [List.pairwise_append]
      refine ⟨ht.ap, List.pairwise_singleton _ _, fun a ha b hb => ?_⟩
      obtain rfl := List.mem_singleton.1 hb
      have hx := ht.fl a ha
      refine ⟨hne a ha, fun e => ?_, fun k hk e => ?_⟩
      · have := row_lt hx.blk
        have h2 : a.2.1 = R := e
        omega
      · obtain ⟨cur, hc⟩ := own_type hx.own hk
        have := row_lt hc
        have := hpv k e
        omega
end Go.Proofs.YtlheilkofibogaaGreat
namespace Go.Proofs.YtlheilkofibogaaGreat
open Go.RowKit Go.Maps
set_option linter.unusedVariables false
set_option linter.unusedSimpArgs false
def mixF (left : Lit → Bool) (d : List Sl) (f h : Nat → Nat) : ByteArray → Option Nat := fun m => if left (.string m.data.toList) then dirF d f m else dirF d h m
theorem sameK_ne {a b : ByteArray} (h : a ≠ b) : (Lit.string a.data.toList).sameKey (.string b.data.toList) = false := sameKey_ne (key_ne h)
theorem mixF_put {left : Lit → Bool} {d : List Sl} {N : Nat} (hd : DOk d N) {f h h' : Nat → Nat} {x : Sl} (hx : x ∈ d) (hh : ∀ y ∈ d, left (.string y.1.data.toList) = false → h' y.2.toNat = h y.2.toNat) : updM (mixF left d f h) x.1 (some (h' x.2.toNat)) = mixF (fun z => left z && !z.sameKey (.string x.1.data.toList)) d f h' := by
  funext m
  unfold updM mixF
  by_cases e : m = x.1
  · subst e
    rw [if_pos rfl]
    have h1 := findM_in hd.rise hx
    have h2 := hd.ge x hx
    have h3 : (left (.string x.1.data.toList) && !(Lit.string x.1.data.toList).sameKey (.string x.1.data.toList)) = false := by simp [Lit.sameKey]
    have h4 : dirF d h' x.1 = some (h' x.2.toNat) := by
      unfold dirF
      have h5 : ¬ findM d x.1 < 0 := by rw [h1]; omega
      rw [if_neg h5, h1]
    show _ = if _ = true then _ else _
    simp only [h3, h4]
    simp
  · rw [if_neg e]
    have h3 : (left (.string m.data.toList) && !(Lit.string m.data.toList).sameKey (.string x.1.data.toList)) = left (.string m.data.toList) := by
      rw [sameK_ne e]; simp
    simp only [h3]
    by_cases hl : left (.string m.data.toList) = true
    · rw [if_pos hl, if_pos hl]
    · have hl' : left (.string m.data.toList) = false := by simpa using hl
      rw [if_neg hl, if_neg hl]
      unfold dirF
      by_cases hf : findM d m < 0
      · rw [if_pos hf, if_pos hf]
      · rw [if_neg hf, if_neg hf]
        obtain ⟨y, hy, e1, e2⟩ := findM_mem hf
        have := hh y hy (by rw [e1]; exact hl')
        rw [← e2, this]
/-- where directory.clone stands in its loop. -/
structure GC (B mb r g : Nat) (X : Gh) (F : Fs) (Q : List (Nat × Nat × Value)) (d : List Sl) (Wb : World) (left : Lit → Bool) (E : List (Nat × Nat × Value)) (wr : World) : Prop where
  md : ModP (fun q => q = mb ∨ q = r) Wb wr
  fs : FsC wr g X F
  tw : TwI B wr mb X F (Q ++ E)
  mp : MapIs wr r d.length (mixF left d X.fb (twB (Q ++ E)))
  dn : ∀ x ∈ d, left (.string x.1.data.toList) = false → ∃ q ∈ Q ++ E, q.1 = x.2.toNat
theorem GC.iter {B mb r g it : Nat} {X : Gh} {F : Fs} {Q : List (Nat × Nat × Value)} {d : List Sl} {Wb wr w' : World} {left : Lit → Bool} {E : List (Nat × Nat × Value)} (h : GC B mb r g X F Q d Wb left E wr) (hg : wr.grownBy w' (some it)) (hr : ∃ a b c e, wr.heap[it]? = some (.mapIter a b c e)) (hi : Wb.heap.size ≤ it) : GC B mb r g X F Q d Wb left E w' := by
  obtain ⟨ia, ib, ic, ie, hr⟩ := hr
  have hm : ModP (fun k => k = it) wr w' := ModP.grown hg (fun b hb => by cases hb; rfl)
  have hnm : ∀ {k : Nat} {es c}, wr.heap[k]? = some (.map es c) → k ≠ it := fun hk e => by subst e; rw [hr] at hk; cases hk
  refine ⟨h.md.andThen hm (fun j hj e => by subst e; omega), h.fs.mod hm (fun k e ho => ?_), h.tw.keep hm (fun k e => ?_), ?_, h.dn⟩
  · subst e
    have hlt := h.fs.own_lt ho
    rcases ho with rfl | rfl | rfl | ⟨i, hl, rfl | hp⟩ | hc | hq
    · have := h.fs.blk; rw [hr] at this; cases this
    · obtain ⟨k, hn⟩ := h.fs.now; obtain ⟨es, c, h1⟩ := hn.obj; exact hnm h1 rfl
    · obtain ⟨k, hn⟩ := h.fs.safe; obtain ⟨es, c, h1⟩ := hn.obj; exact hnm h1 rfl
    · have := (h.fs.file hl).blk; rw [hr] at this; cases this
    · obtain ⟨cur, hc⟩ := own_type (h.fs.file hl).own hp; rw [hr] at hc; cases hc
    · obtain ⟨cur, hc⟩ := own_type h.fs.chg hc; rw [hr] at hc; cases hc
    · obtain ⟨cur, hc⟩ := h.fs.row.type hq; rw [hr] at hc; cases hc
  · subst e
    obtain ⟨es, c, h1, _⟩ := h.tw.tm.ob
    exact ⟨fun e => hnm h1 e.symm, fun cs t fz hk => by rw [hr] at hk; cases hk⟩
  · obtain ⟨es, c, h1⟩ := h.mp.obj
    exact h.mp.to (hm.oth _ (row_lt h1) (hnm h1))
theorem GC.keep {B mb r g N : Nat} {X : Gh} {F : Fs} {Q : List (Nat × Nat × Value)} {d : List Sl} {Wb wr w3 w4 : World} {left : Lit → Bool} {E E' : List (Nat × Nat × Value)} (h : GC B mb r g X F Q d Wb left E wr) (hd : DOk d N) {x : Sl} (hx : x ∈ d) (hmb : ¬ Own g F X mb) (hrb : ¬ Own g F X r) (hne : mb ≠ r)
    (h3 : ModP (fun k => k = mb) wr w3) (ht : TwI B w3 mb X F ((Q ++ E) ++ E')) (hq : ∃ q ∈ (Q ++ E) ++ E', q.1 = x.2.toNat) {n4 : Nat} (h4 : MapIs w4 r n4 (updM (mixF left d X.fb (twB (Q ++ E))) x.1 (some (twB ((Q ++ E) ++ E') x.2.toNat)))) (ho : Only w3 w4 r) (hn4 : n4 = d.length) : GC B mb r g X F Q d Wb (fun z => left z && !z.sameKey (.string x.1.data.toList)) (E ++ E') w4 := by
  subst hn4
  obtain ⟨es, c, hr⟩ := h.mp.obj
  have hr3 := h3.row hr (fun e => hne e.symm)
  have hm4 : ModP (fun k => k = r) w3 w4 := ModP.only ho rfl
  refine ⟨(h.md.trans (h3.weak (fun k _ e => Or.inl e))).trans (hm4.weak (fun k _ e => Or.inr e)), (h.fs.mod h3 (fun k e => by subst e; exact hmb)).mod hm4 (fun k e => by subst e; exact hrb), ?_, ?_, fun y hy hl => ?_⟩
  · rw [← List.append_assoc]
    refine ht.keep hm4 (fun k e => ?_)
    subst e
    exact ⟨fun e => hne e.symm, fun cs t fz hk => by rw [hr3] at hk; cases hk⟩
  · rw [← List.append_assoc, ← mixF_put hd hx (h := twB (Q ++ E)) (fun y hy hl => twB_app (h.dn y hy hl))]
    exact h4
  · rw [← List.append_assoc]
    by_cases e : y = x
    · subst e; exact hq
    · have hnm : y.1 ≠ x.1 := fun e1 => by
        have h1 := findM_in hd.rise hy
        have h2 := findM_in hd.rise hx
        rw [e1, h2] at h1
        exact e (Prod.ext e1 h1.symm)
      have hl' : left (.string y.1.data.toList) = false := by
        have := hl
        rw [sameK_ne hnm] at this
        simpa using this
      obtain ⟨q, h1, h2⟩ := h.dn y hy hl'
      exact ⟨q, List.mem_append_left _ h1, h2⟩
theorem mixF_all (d : List Sl) (f h : Nat → Nat) : mixF (fun _ => true) d f h = dirF d f := by
  funext m; unfold mixF; simp
theorem mixF_no {left : Lit → Bool} (hl : ∀ z, left z = false) (d : List Sl) (f h : Nat → Nat) : mixF left d f h = dirF d h := by
  funext m; unfold mixF; rw [hl]; simp
end Go.Proofs.YtlheilkofibogaaGreat
