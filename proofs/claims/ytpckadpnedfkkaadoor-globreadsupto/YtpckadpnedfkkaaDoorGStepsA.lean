import Derived.Test.YtpckadpnedfkkaaDoorGStep
import Derived.Deep.Cut
namespace Go.Proofs.YtpckadpnedfkkaaDoor
open Go.RowKit Gb
set_option linter.unusedVariables false
def svL (st : St) : List Value := (sv st).toList
def scells : List St → List Value
  | [] => []
  | s :: p => svL s ++ scells p
theorem scells_len (p : List St) : (scells p).length = p.length * 5 := by
  induction p with
  | nil => rfl
  | cons s p ih =>
    simp only [scells, List.length_append, ih, List.length_cons]
    have : (svL s).length = 5 := rfl
    omega
theorem scells_app (p q : List St) : scells (p ++ q) = scells p ++ scells q := by
  induction p with
  | nil => rfl
  | cons s p ih => simp only [List.cons_append, scells, ih, List.append_assoc]
theorem scells_snoc (p : List St) (s : St) : scells (p ++ [s]) = scells p ++ svL s := by rw [scells_app]; simp [scells]
theorem scells_at (p : List St) (k : Nat) (s : St) (h : p[k]? = some s) (i : Nat) (hi : i < 5) : (scells p)[5 * k + i]? = (svL s)[i]? := by
  induction p generalizing k with
  | nil => simp at h
  | cons a p ih =>
    have ha : (svL a).length = 5 := rfl
    simp only [scells]
    cases k with
    | zero =>
      have : a = s := by simpa using h
      subst this
      rw [List.getElem?_append_left (by omega)]
      simp
    | succ k =>
      rw [List.getElem?_append_right (by omega), ha, show 5 * (k + 1) + i - 5 = 5 * k + i by omega]
      exact ih k (by simpa using h)
theorem sv_many (s : St) : (svL s)[4]? = some (.bool s.any) := rfl
theorem sv_word (s : St) (q : Nat) (h : q < 4) : (svL s)[q]? = some (wv s.f q) := by
  rcases (by omega : q = 0 ∨ q = 1 ∨ q = 2 ∨ q = 3) with h | h | h | h <;> subst h <;> rfl
/-- the steps that a slice holds. -/
theorem own_step {w : World} {base : Nat} {v : Value} {p : List St} (h : w.ownsRow base 63 5 v p.length (scells p)) (hp : p ≠ []) :
    ∃ g cap, v = .slice (some ⟨g, 0, none⟩) p.length cap ∧ base ≤ g ∧ g < w.heap.size ∧ ∀ k s, p[k]? = some s → w.cell? ⟨g, 5 * k + 4, none⟩ = some (.bool s.any) ∧ ∀ q, q < 4 → w.cell? ⟨g, 5 * k + q, none⟩ = some (wv s.f q) := by
  rcases h.2 with ⟨e, hn⟩ | ⟨g, cap, cur, hv, hbg, hg, hn, _, hs, ht⟩
  · exact absurd (List.length_eq_zero_iff.1 hn) hp
  · refine ⟨g, cap, hv, hbg, row_lt hg, fun k s hk => ?_⟩
    have hkl := (List.getElem?_eq_some_iff.1 hk).1
    have key : ∀ i, i < 5 → w.cell? ⟨g, 5 * k + i, none⟩ = (svL s)[i]? := by
      intro i hi
      rw [cell_of_row _ _ _ _ _ _ hg, ← scells_at p k s hk i hi, ← ht, List.getElem?_take_of_lt (by omega), Array.getElem?_toList]
    exact ⟨by rw [key 4 (by omega)]; rfl, fun q hq => by rw [key q (by omega)]; exact sv_word s q hq⟩
theorem infoS : (Tryd.prog.info? 63).map (fun i => (i.zero, i.size, i.bytes)) = some (some (.agg #[.int .u64 0, .int .u64 0, .int .u64 0, .int .u64 0, .bool false]), 5, 40) := by kernel_rfl
theorem endSt_sv : svL endSt = [.int .u64 0, .int .u64 0, .int .u64 0, .int .u64 0, .bool false] := by
  show (ws (fun _ => false) ++ #[Value.bool false]).toList = _
  rw [← Z4_eq]; rfl
set_option maxHeartbeats 1500000 in
set_option maxRecDepth 20000 in
theorem stepsOf_any (s : ByteArray) (hm : s.size ≤ 3000000) (w : World) :
    Calls Tryd.prog 19 #[.string s] w fun e w' => ∃ v, e = .returned v ∧ w'.ownsRow w.heap.size 63 5 v (prog s.data.toList ++ [endSt]).length (scells (prog s.data.toList ++ [endSt])) ∧ Below w.heap.size w w' := by
  obtain ⟨i0, hi, hz0, hz1, hz2⟩ := info_parts infoS
  have hmk := run_make w 44 63 i0 _ Tryd.underlying44 hi hz0 .i64 .i64 0 ((s.size : Int) + 1) (by omega) (by omega) (by rw [hz2]; omega) (by omega)
  have hzc : (Value.agg #[.int .u64 0, .int .u64 0, .int .u64 0, .int .u64 0, .bool false]).cells = #[.int .u64 0, .int .u64 0, .int .u64 0, .int .u64 0, .bool false] := rfl
  rw [hz1, hzc] at hmk
  obtain ⟨cs, hcs⟩ : ∃ cs, madeCells #[.int .u64 0, .int .u64 0, .int .u64 0, .int .u64 0, .bool false] (((s.size : Int) + 1).toNat * 5) = cs := ⟨_, rfl⟩
  have HMK : Hid ((w.alloc (.cells cs 63)).ownsRow w.heap.size 63 5 (.slice (some ⟨w.heap.size, 0, none⟩) 0 (s.size + 1)) 0 []) :=
    World.ownsRow_made w cs (s.size + 1) (Nat.le_refl _) (by unfold maxLen; omega) (by rw [← hcs, size_madeCells]; omega)
  rw [hcs, show ((s.size : Int) + 1).toNat = s.size + 1 by omega, show (0 : Int).toNat = 0 from rfl] at hmk
  go_enter Tryd.func19, Tryd.ntmps19
  go_wp2
  go_loopw [3, 4, 5, 6] (fun v q _ _ wr => ∃ (r : ByteArray) (acc : List St), q = .string r ∧ wr.ownsRow w.heap.size 63 5 v acc.length (scells acc) ∧ (parse r.data.toList).foldl colF acc = prog s.data.toList ∧ acc.length + r.size ≤ s.size ∧ Below w.heap.size w wr) (fun _ q _ _ _ => sizeS q)
  case atStart => exact ⟨s, [], rfl, HMK.out, rfl, by simp, by go_grown⟩
  case round =>
    obtain ⟨r, acc, rfl, hown, hcf, hsz, hbel⟩ := hrel
    have HW : Hid (wr.ownsRow w.heap.size 63 5 u3 acc.length (scells acc)) := hown
    have HCF : Hid _ := hcf
    have HB : Hid (Below w.heap.size w wr) := hbel
    have hbz : w.heap.size ≤ wr.heap.size := hbel.size
    clear hbel hcf hmk
    by_cases hrz : r.size = 0
    · have hrem : r.toList.isEmpty = true := str_empty hrz
      have hpr : prog s.data.toList = acc := by
        rw [← HCF.out, List.length_eq_zero_iff.1 (show r.data.toList.length = 0 by rw [list_len]; exact hrz)]; rfl
      obtain ⟨pv, cv, ev⟩ := own_form hown
      subst ev
      clear hown
      go_wp2_with (at_builtin; refine wpList_append_own _ rfl _ _ 44 rfl w.heap.size 63 i0 _ 5 40 Tryd.underlying44 hi hz0 hz1 hz2 rfl (by decide) _ _ _ rfl (World.ownsRow.alloc HW.out _) ⟨wr.heap.size, 0, none⟩ 1 1 [.int .u64 0, .int .u64 0, .int .u64 0, .int .u64 0, .bool false] rfl rfl ?t01 ?t02 ?t03 ?t04 ?t05 ?_)
      case t01 =>
        intro t u hj
        match t, hj with
        | 0, hj => simp at hj; subst hj; simp [Addr.add]
        | 1, hj => simp at hj; subst hj; simp [Addr.add]
        | 2, hj => simp at hj; subst hj; simp [Addr.add]
        | 3, hj => simp at hj; subst hj; simp [Addr.add]
        | 4, hj => simp at hj; subst hj; simp [Addr.add]
      case t02 => intro u hu; simp at hu; rcases hu with rfl | rfl | rfl | rfl | rfl <;> rfl
      case t03 => unfold maxLen; omega
      case t04 => omega
      case t05 => simp; omega
      · intro v' w4 hown' hgrow _
        have HW4 : Hid (w4.ownsRow w.heap.size 63 5 v' (acc ++ [endSt]).length (scells (acc ++ [endSt]))) := by
          show w4.ownsRow _ _ _ _ _ _
          rw [scells_snoc, List.length_append, endSt_sv]
          exact hown'
        have HB4 : Hid (Below w.heap.size w w4) := (HB.out.alloc hbz _).grown hgrow (by simp; omega) (fun k hk => (World.ownsRow.lt HW.out k hk).1)
        clear hown' hgrow
        go_wp2
        go_ret
        exact ⟨_, rfl, by rw [hpr]; exact HW4.out, HB4.out⟩
    · have hrem : r.toList.isEmpty = false := str_full hrz
      have hne : r.data.toList ≠ [] := fun x => hrz (by rw [← list_len, x]; rfl)
      obtain ⟨st, est⟩ : ∃ st, (stepF r.data.toList).1 = st := ⟨_, rfl⟩
      obtain ⟨rr, err⟩ : ∃ rr, strB (stepF r.data.toList).2 = rr := ⟨_, rfl⟩
      have HRR : Hid (rr.data.toList = (stepF r.data.toList).2 ∧ rr.size < r.size) := by
        have h1 : rr.data.toList = (stepF r.data.toList).2 := by rw [← err, strB_list]
        refine ⟨h1, ?_⟩
        have := stepF_len hne
        rw [← h1, list_len, list_len] at this
        exact this
      have hcf2 : (parse (stepF r.data.toList).2).foldl colF (colF acc st) = prog s.data.toList := by
        have := HCF.out
        rw [parse_cons hne, List.foldl_cons, est] at this
        exact this
      have HCF : Hid _ := hcf2
      obtain ⟨x0, x1, x2, x3, ey, _⟩ := sv_form st
      have HEY : Hid _ := ey
      have HFS : Hid (∀ w' : World, Calls Tryd.prog 28 #[.string r] w' fun e w'' => e = .returned (.tuple #[.agg #[.int .u64 x0, .int .u64 x1, .int .u64 x2, .int .u64 x3, .bool st.any], .string rr]) ∧ Below w'.heap.size w' w'') := fun w' => by
        have := firstStep_any r (by omega) (by omega) w'
        unfold stepT at this
        rw [est, err, ey] at this
        exact this
      clear hcf2 ey est err hne
      obtain ⟨pv, cv, ev⟩ := own_form hown
      have hlast : ∀ m s', acc[m]? = some s' → m + 1 = acc.length → ∃ g cap, u3 = .slice (some ⟨g, 0, none⟩) acc.length cap ∧ g < wr.heap.size ∧ wr.cell? ⟨g, 5 * m + 4, none⟩ = some (.bool s'.any) := by
        intro m s' hs' hm'
        obtain ⟨g, cap, e1, _, e2, e3⟩ := own_step hown (by intro e; rw [e] at hm'; simp at hm')
        exact ⟨g, cap, e1, e2, (e3 m s' hs').1⟩
      have HLA : Hid _ := hlast
      clear hown hlast
      by_cases hany : st.any = true
      · rw [hany] at HFS HEY
        by_cases hacc : acc.length = 0
        · have HCOL : Hid (acc ++ [st] = colF acc st) := by
            show _ = _
            unfold colF
            rw [if_neg]
            rintro ⟨_, h⟩
            rw [List.length_eq_zero_iff.1 hacc] at h; simp at h
          have hneg : (acc.length : Int) - 1 < 0 := by omega
          clear hacc
          subst ev
          go_wp2_with fail
          refine (show Calls _ _ _ _ _ from HFS.out _).mono ?_
          rintro e w2 ⟨rfl, hb2⟩
          have hg2 := (hb2.block wr.heap.size (by simp)).trans (one_alloc wr _)
          have HG2 : Hid _ := hg2
          have hsz2 : wr.heap.size < w2.heap.size := row_lt hg2
          obtain ⟨d0, d1, d2, d3, d4, df⟩ := row5 hg2
          have HB2 : Hid (Below wr.heap.size wr w2) := (Below.alloc (Below.refl _ wr) (Nat.le_refl _) _).trans (hb2.mono (by simp))
          clear hb2 hg2
          go_upto_region 6 with fail
          obtain ⟨hF3, hO3⟩ := heap_set5 w2 wr.heap.size 63 _ _ _ _ _ (.int .u64 x0) (.int .u64 x1) (.int .u64 x2) (.int .u64 x3) (.bool true) HG2.out
          generalize (((((w2.setCell ⟨wr.heap.size, 0, none⟩ (.int .u64 x0)).setCell ⟨wr.heap.size, 1, none⟩ (.int .u64 x1)).setCell ⟨wr.heap.size, 2, none⟩ (.int .u64 x2)).setCell ⟨wr.heap.size, 3, none⟩ (.int .u64 x3)).setCell ⟨wr.heap.size, 4, none⟩ (.bool true)) = w3 at hF3 hO3 ⊢
          have hb3 : Below wr.heap.size wr w3 := HB2.out.trans (hO3.below (Nat.le_refl _))
          have HW3 : Hid (w3.ownsRow w.heap.size 63 5 (.slice pv acc.length cv) acc.length (scells acc)) := own_keep (by exact HW.out) (fun k _ h => hb3.block k h)
          have HB3 : Hid (Below w.heap.size w w3) := HB.out.trans (hb3.mono hbz)
          have hz3 : w.heap.size ≤ w3.heap.size := HB3.out.size
          obtain ⟨r0, r1, r2, r3, r4, rf⟩ := row5 hF3
          clear d0 d1 d2 d3 d4 df hF3 hO3
          clear hb3
          go_upto_region 8 with fail
          go_wp2_with (at_builtin; refine wpList_append_own _ rfl _ _ 44 rfl w.heap.size 63 i0 _ 5 40 Tryd.underlying44 hi hz0 hz1 hz2 rfl (by decide) _ _ _ rfl (World.ownsRow.alloc HW3.out _) ⟨w3.heap.size, 0, none⟩ 1 1 [.int .u64 x0, .int .u64 x1, .int .u64 x2, .int .u64 x3, .bool true] rfl rfl ?t11 ?t12 ?t13 ?t14 ?t15 ?_)
          case t12 => first | exact ⟨rfl, rfl, rfl, rfl, rfl⟩ | (intro u hu; simp at hu; rcases hu with rfl | rfl | rfl | rfl | rfl <;> rfl)
          case t13 => unfold maxLen; omega
          case t14 => omega
          case t15 => first | omega | (simp; omega)
          · intro v' w4 hown' hgrow _
            have HW4 : Hid (w4.ownsRow w.heap.size 63 5 v' (acc ++ [st]).length (scells (acc ++ [st]))) := by
              show w4.ownsRow _ _ _ _ _ _
              rw [scells_snoc, List.length_append]
              have e : svL st = [.int .u64 x0, .int .u64 x1, .int .u64 x2, .int .u64 x3, .bool true] := by unfold svL; rw [HEY.out]
              rw [e]
              first | exact hown' | (rw [hm1]; exact hown')
            have HB4 : Hid (Below w.heap.size w w4) := (HB3.out.alloc hz3 _).grown hgrow (by simp; omega) (fun k hk => (World.ownsRow.lt HW3.out k hk).1)
            clear hown' hgrow
            go_wp2
            go_roundw
            case rel => exact ⟨rr, _, rfl, HW4.out, by rw [HCOL.out, HRR.out.1]; exact HCF.out, by have := HRR.out.2; simp; omega, HB4.out⟩
            case measure => exact HRR.out.2
        · obtain ⟨m, hm1⟩ : ∃ m, acc.length = m + 1 := ⟨acc.length - 1, by omega⟩
          obtain ⟨sl, hsl⟩ : ∃ sl, acc[m]? = some sl := ⟨acc[m], List.getElem?_eq_getElem (by omega)⟩
          have hgl : acc.getLast? = some sl := by rw [List.getLast?_eq_getElem?, show acc.length - 1 = m by omega]; exact hsl
          obtain ⟨g, cap, eg, hgw, hgc⟩ := HLA.out m sl hsl (by omega)
          rw [ev] at eg
          obtain ⟨rfl, _, rfl⟩ := by simpa using eg
          clear eg
          subst ev
          by_cases hsa : sl.any = true
          · have HCOL : Hid (colF acc st = acc) := by
              show _ = _
              unfold colF
              rw [if_pos ⟨hany, by rw [hgl]; simp [hsa]⟩]
            rw [hsa] at hgc
            clear hsl hgl
            go_wp2_with fail
            refine (show Calls _ _ _ _ _ from HFS.out _).mono ?_
            rintro e w2 ⟨rfl, hb2⟩
            have hg2 := (hb2.block wr.heap.size (by simp)).trans (one_alloc wr _)
            have HG2 : Hid _ := hg2
            have hsz2 : wr.heap.size < w2.heap.size := row_lt hg2
            obtain ⟨d0, d1, d2, d3, d4, df⟩ := row5 hg2
            have HB2 : Hid (Below wr.heap.size wr w2) := (Below.alloc (Below.refl _ wr) (Nat.le_refl _) _).trans (hb2.mono (by simp))
            clear hb2 hg2
            go_upto_region 6 with fail
            obtain ⟨hF3, hO3⟩ := heap_set5 w2 wr.heap.size 63 _ _ _ _ _ (.int .u64 x0) (.int .u64 x1) (.int .u64 x2) (.int .u64 x3) (.bool true) HG2.out
            generalize (((((w2.setCell ⟨wr.heap.size, 0, none⟩ (.int .u64 x0)).setCell ⟨wr.heap.size, 1, none⟩ (.int .u64 x1)).setCell ⟨wr.heap.size, 2, none⟩ (.int .u64 x2)).setCell ⟨wr.heap.size, 3, none⟩ (.int .u64 x3)).setCell ⟨wr.heap.size, 4, none⟩ (.bool true)) = w3 at hF3 hO3 ⊢
            have hb3 : Below wr.heap.size wr w3 := HB2.out.trans (hO3.below (Nat.le_refl _))
            have HW3 : Hid (w3.ownsRow w.heap.size 63 5 (.slice (some ⟨g, 0, none⟩) (m + 1) cv) acc.length (scells acc)) := own_keep (by have := HW.out; rw [hm1] at this ⊢; exact this) (fun k _ h => hb3.block k h)
            have HB3 : Hid (Below w.heap.size w w3) := HB.out.trans (hb3.mono hbz)
            have hz3 : w.heap.size ≤ w3.heap.size := HB3.out.size
            obtain ⟨r0, r1, r2, r3, r4, rf⟩ := row5 hF3
            clear d0 d1 d2 d3 d4 df hF3 hO3
            have hgc3 : w3.cell? ⟨g, m * 5 + 4, none⟩ = some (.bool true) := by
              rw [Nat.mul_comm]; exact (World.cell?_of_block (hb3.block g hgw)).trans hgc
            clear hb3
            go_wp2
            go_roundw
            case rel => exact ⟨rr, _, rfl, HW3.out, by rw [HRR.out.1]; rw [HCOL.out] at HCF; exact HCF.out, by have := HRR.out.2; omega, HB3.out⟩
            case measure => exact HRR.out.2
          · have hsa' : sl.any = false := by simpa using hsa
            have HCOL : Hid (acc ++ [st] = colF acc st) := by
              show _ = _
              unfold colF
              rw [if_neg]
              rintro ⟨_, h⟩
              rw [hgl] at h; simp [hsa'] at h
            rw [hsa'] at hgc
            clear hsl hgl
            go_wp2_with fail
            refine (show Calls _ _ _ _ _ from HFS.out _).mono ?_
            rintro e w2 ⟨rfl, hb2⟩
            have hg2 := (hb2.block wr.heap.size (by simp)).trans (one_alloc wr _)
            have HG2 : Hid _ := hg2
            have hsz2 : wr.heap.size < w2.heap.size := row_lt hg2
            obtain ⟨d0, d1, d2, d3, d4, df⟩ := row5 hg2
            have HB2 : Hid (Below wr.heap.size wr w2) := (Below.alloc (Below.refl _ wr) (Nat.le_refl _) _).trans (hb2.mono (by simp))
            clear hb2 hg2
            go_upto_region 6 with fail
            obtain ⟨hF3, hO3⟩ := heap_set5 w2 wr.heap.size 63 _ _ _ _ _ (.int .u64 x0) (.int .u64 x1) (.int .u64 x2) (.int .u64 x3) (.bool true) HG2.out
            generalize (((((w2.setCell ⟨wr.heap.size, 0, none⟩ (.int .u64 x0)).setCell ⟨wr.heap.size, 1, none⟩ (.int .u64 x1)).setCell ⟨wr.heap.size, 2, none⟩ (.int .u64 x2)).setCell ⟨wr.heap.size, 3, none⟩ (.int .u64 x3)).setCell ⟨wr.heap.size, 4, none⟩ (.bool true)) = w3 at hF3 hO3 ⊢
            have hb3 : Below wr.heap.size wr w3 := HB2.out.trans (hO3.below (Nat.le_refl _))
            have HW3 : Hid (w3.ownsRow w.heap.size 63 5 (.slice (some ⟨g, 0, none⟩) (m + 1) cv) acc.length (scells acc)) := own_keep (by have := HW.out; rw [hm1] at this ⊢; exact this) (fun k _ h => hb3.block k h)
            have HB3 : Hid (Below w.heap.size w w3) := HB.out.trans (hb3.mono hbz)
            have hz3 : w.heap.size ≤ w3.heap.size := HB3.out.size
            obtain ⟨r0, r1, r2, r3, r4, rf⟩ := row5 hF3
            clear d0 d1 d2 d3 d4 df hF3 hO3
            have hgc3 : w3.cell? ⟨g, m * 5 + 4, none⟩ = some (.bool false) := by
              rw [Nat.mul_comm]; exact (World.cell?_of_block (hb3.block g hgw)).trans hgc
            clear hb3
            go_upto_region 8 with fail
            go_wp2_with (at_builtin; refine wpList_append_own _ rfl _ _ 44 rfl w.heap.size 63 i0 _ 5 40 Tryd.underlying44 hi hz0 hz1 hz2 rfl (by decide) _ _ _ rfl (World.ownsRow.alloc HW3.out _) ⟨w3.heap.size, 0, none⟩ 1 1 [.int .u64 x0, .int .u64 x1, .int .u64 x2, .int .u64 x3, .bool true] rfl rfl ?t21 ?t22 ?t23 ?t24 ?t25 ?_)
            case t21 =>
              intro t u hj
              match t, hj with
              | 0, hj => simp at hj; subst hj; simp [Addr.add]
              | 1, hj => simp at hj; subst hj; simp [Addr.add]
              | 2, hj => simp at hj; subst hj; simp [Addr.add]
              | 3, hj => simp at hj; subst hj; simp [Addr.add]
              | 4, hj => simp at hj; subst hj; simp [Addr.add]
            case t22 => first | exact ⟨rfl, rfl, rfl, rfl, rfl⟩ | (intro u hu; simp at hu; rcases hu with rfl | rfl | rfl | rfl | rfl <;> rfl)
            case t23 => unfold maxLen; omega
            case t24 => omega
            case t25 => first | omega | (simp; omega)
            · intro v' w4 hown' hgrow _
              have HW4 : Hid (w4.ownsRow w.heap.size 63 5 v' (acc ++ [st]).length (scells (acc ++ [st]))) := by
                show w4.ownsRow _ _ _ _ _ _
                rw [scells_snoc, List.length_append]
                have e : svL st = [.int .u64 x0, .int .u64 x1, .int .u64 x2, .int .u64 x3, .bool true] := by unfold svL; rw [HEY.out]
                rw [e]
                first | exact hown' | (rw [hm1]; exact hown')
              have HB4 : Hid (Below w.heap.size w w4) := (HB3.out.alloc hz3 _).grown hgrow (by simp; omega) (fun k hk => (World.ownsRow.lt HW3.out k hk).1)
              clear hown' hgrow
              go_wp2
              go_roundw
              case rel => exact ⟨rr, _, rfl, HW4.out, by rw [HCOL.out, HRR.out.1]; exact HCF.out, by have := HRR.out.2; simp; omega, HB4.out⟩
              case measure => exact HRR.out.2
      · have hany' : st.any = false := by simpa using hany
        rw [hany'] at HFS HEY
        have HCOL : Hid (acc ++ [st] = colF acc st) := by
          show _ = _
          unfold colF
          rw [if_neg]
          rintro ⟨h, _⟩
          exact hany h
        subst ev
        go_wp2_with fail
        refine (show Calls _ _ _ _ _ from HFS.out _).mono ?_
        rintro e w2 ⟨rfl, hb2⟩
        have hg2 := (hb2.block wr.heap.size (by simp)).trans (one_alloc wr _)
        have HG2 : Hid _ := hg2
        have hsz2 : wr.heap.size < w2.heap.size := row_lt hg2
        obtain ⟨d0, d1, d2, d3, d4, df⟩ := row5 hg2
        have HB2 : Hid (Below wr.heap.size wr w2) := (Below.alloc (Below.refl _ wr) (Nat.le_refl _) _).trans (hb2.mono (by simp))
        clear hb2 hg2
        go_upto_region 6 with fail
        obtain ⟨hF3, hO3⟩ := heap_set5 w2 wr.heap.size 63 _ _ _ _ _ (.int .u64 x0) (.int .u64 x1) (.int .u64 x2) (.int .u64 x3) (.bool false) HG2.out
        generalize (((((w2.setCell ⟨wr.heap.size, 0, none⟩ (.int .u64 x0)).setCell ⟨wr.heap.size, 1, none⟩ (.int .u64 x1)).setCell ⟨wr.heap.size, 2, none⟩ (.int .u64 x2)).setCell ⟨wr.heap.size, 3, none⟩ (.int .u64 x3)).setCell ⟨wr.heap.size, 4, none⟩ (.bool false)) = w3 at hF3 hO3 ⊢
        have hb3 : Below wr.heap.size wr w3 := HB2.out.trans (hO3.below (Nat.le_refl _))
        have HW3 : Hid (w3.ownsRow w.heap.size 63 5 (.slice pv acc.length cv) acc.length (scells acc)) := own_keep (by exact HW.out) (fun k _ h => hb3.block k h)
        have HB3 : Hid (Below w.heap.size w w3) := HB.out.trans (hb3.mono hbz)
        have hz3 : w.heap.size ≤ w3.heap.size := HB3.out.size
        obtain ⟨r0, r1, r2, r3, r4, rf⟩ := row5 hF3
        clear d0 d1 d2 d3 d4 df hF3 hO3
        clear hb3
        go_upto_region 8 with fail
        go_wp2_with (at_builtin; refine wpList_append_own _ rfl _ _ 44 rfl w.heap.size 63 i0 _ 5 40 Tryd.underlying44 hi hz0 hz1 hz2 rfl (by decide) _ _ _ rfl (World.ownsRow.alloc HW3.out _) ⟨w3.heap.size, 0, none⟩ 1 1 [.int .u64 x0, .int .u64 x1, .int .u64 x2, .int .u64 x3, .bool false] rfl rfl ?t31 ?t32 ?t33 ?t34 ?t35 ?_)
        case t31 =>
          intro t u hj
          match t, hj with
          | 0, hj => simp at hj; subst hj; simp [Addr.add]
          | 1, hj => simp at hj; subst hj; simp [Addr.add]
          | 2, hj => simp at hj; subst hj; simp [Addr.add]
          | 3, hj => simp at hj; subst hj; simp [Addr.add]
          | 4, hj => simp at hj; subst hj; simp [Addr.add]
        case t32 => first | exact ⟨rfl, rfl, rfl, rfl, rfl⟩ | (intro u hu; simp at hu; rcases hu with rfl | rfl | rfl | rfl | rfl <;> rfl)
        case t33 => unfold maxLen; omega
        case t34 => omega
        case t35 => first | omega | (simp; omega)
        · intro v' w4 hown' hgrow _
          have HW4 : Hid (w4.ownsRow w.heap.size 63 5 v' (acc ++ [st]).length (scells (acc ++ [st]))) := by
            show w4.ownsRow _ _ _ _ _ _
            rw [scells_snoc, List.length_append]
            have e : svL st = [.int .u64 x0, .int .u64 x1, .int .u64 x2, .int .u64 x3, .bool false] := by unfold svL; rw [HEY.out]
            rw [e]
            first | exact hown' | (rw [hm1]; exact hown')
          have HB4 : Hid (Below w.heap.size w w4) := (HB3.out.alloc hz3 _).grown hgrow (by simp; omega) (fun k hk => (World.ownsRow.lt HW3.out k hk).1)
          clear hown' hgrow
          go_wp2
          go_roundw
          case rel => exact ⟨rr, _, rfl, HW4.out, by rw [HCOL.out, HRR.out.1]; exact HCF.out, by have := HRR.out.2; simp; omega, HB4.out⟩
          case measure => exact HRR.out.2
end Go.Proofs.YtpckadpnedfkkaaDoor
