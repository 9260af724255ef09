import Derived.Test.YtpckadpnedfkkaaDoorGFirst
import Derived.Deep.RegionWith
namespace Go.Proofs.YtpckadpnedfkkaaDoor
open Go.RowKit Gb
set_option linter.unusedVariables false
theorem add_p (w : World) (g T : Nat) (f : UInt8 → Bool) (c : UInt8) (hg : w.heap[g]? = some (.cells (ws f) T)) :
    Calls Tryd.prog 36 #[.pointer (some ⟨g, 0, none⟩), .int .u8 (c.toNat : Int)] w fun e w' => (∃ v, e = .returned v) ∧ w'.heap[g]? = some (.cells (ws (orF f (fun b => b == c))) T) ∧ Only w w' g := by
  have := add_any w g T f #[] c (by rw [Array.append_empty]; exact hg)
  rw [Array.append_empty] at this
  exact this
theorem addRange_p (w : World) (g T : Nat) (f : UInt8 → Bool) (a c : UInt8) (hg : w.heap[g]? = some (.cells (ws f) T)) :
    Calls Tryd.prog 42 #[.pointer (some ⟨g, 0, none⟩), .int .u8 (a.toNat : Int), .int .u8 (c.toNat : Int)] w fun e w' => (∃ v, e = .returned v) ∧ w'.heap[g]? = some (.cells (ws (orF f (rngF a c))) T) ∧ Only w w' g := by
  have := addRange_any w g T f #[] a c (by rw [Array.append_empty]; exact hg)
  rw [Array.append_empty] at this
  exact this
def setT (l : List UInt8) : Value := .tuple #[.agg (ws (setF l).1), .string (strB (setF l).2)]
theorem drop_full {s : ByteArray} {l : List UInt8} (h : s.data.toList = l) : s = strB l := by rw [← h]; rfl
def Z4 : Array Value := ws (fun _ => false)
theorem Z4_eq : (#[.int .u64 0, .int .u64 0, .int .u64 0, .int .u64 0] : Array Value) = ws (fun _ => false) := by
  unfold ws wv
  rw [wd_none, wd_none, wd_none, wd_none]; rfl
def sizeS : Value → Nat
  | .string s => s.size
  | _ => 0
theorem stop_nil {s : ByteArray} (h : s.size = 0) : (s.data.toList.isEmpty || s.data.toList.getD 0 0 == 93) = true := by
  have : s.data.toList = [] := List.length_eq_zero_iff.1 (by rw [list_len]; exact h)
  rw [this]; rfl
theorem stop_end {s : ByteArray} (h : 0 < s.size) (e : s[0].toNat = 93) : (s.data.toList.isEmpty || s.data.toList.getD 0 0 == 93) = true := by
  rw [getD_at s 0 h]
  have : s[0] = 93 := UInt8.toNat_inj.1 e
  rw [this]; simp
theorem stop_no {s : ByteArray} (h : 0 < s.size) (e : ¬ s[0].toNat = 93) : (s.data.toList.isEmpty || s.data.toList.getD 0 0 == 93) = false := by
  rw [getD_at s 0 h]
  have h1 : ¬ s[0] = 93 := fun x => e (by rw [x]; rfl)
  have h2 : s.data.toList.isEmpty = false := by
    cases hh : s.data.toList with
    | nil => have := list_len s; rw [hh] at this; simp at this; omega
    | cons a t => rfl
  rw [h2, Bool.false_or]
  simpa using h1
theorem two_allocs (w : World) (A B : Obj) : ((w.alloc A).alloc B).heap[w.heap.size]? = some A ∧ ((w.alloc A).alloc B).heap[w.heap.size + 1]? = some B := by
  constructor
  · show ((w.heap.push A).push B)[w.heap.size]? = some A
    rw [Array.getElem?_push, if_neg (by simp), Array.getElem?_push, if_pos (by simp)]
  · show ((w.heap.push A).push B)[w.heap.size + 1]? = some B
    rw [Array.getElem?_push, if_pos (by simp)]
theorem mem_rng {s : ByteArray} (h : isR s.data.toList = true) (h2 : 2 < s.size) : memN s.data.toList = 3 ∧ memF s.data.toList = rngF s[0] s[2] := by
  unfold memN memF
  rw [if_pos h, if_pos h, getD_at s 0 (by omega), getD_at s 2 h2]
  exact ⟨rfl, rfl⟩
theorem mem_one {s : ByteArray} (h : isR s.data.toList = false) : memN s.data.toList = firstN s.data.toList ∧ memF s.data.toList = fun b => b == firstB s.data.toList := by
  unfold memN memF
  rw [if_neg (by rw [h]; decide), if_neg (by rw [h]; decide)]
  exact ⟨rfl, rfl⟩
theorem isR_len {s : ByteArray} (h : isR s.data.toList = true) : 2 < s.size := by
  unfold isR at h
  rw [list_len] at h
  simp at h
  exact h.1.1
theorem heap_set4 (w : World) (g T : Nat) (a b c d v0 v1 v2 v3 : Value) (h : w.heap[g]? = some (.cells #[a, b, c, d] T)) :
    ((((w.setCell ⟨g, 0, none⟩ v0).setCell ⟨g, 1, none⟩ v1).setCell ⟨g, 2, none⟩ v2).setCell ⟨g, 3, none⟩ v3).heap[g]? = some (.cells #[v0, v1, v2, v3] T) ∧ Only w ((((w.setCell ⟨g, 0, none⟩ v0).setCell ⟨g, 1, none⟩ v1).setCell ⟨g, 2, none⟩ v2).setCell ⟨g, 3, none⟩ v3) g := by
  refine ⟨?_, rfl, rfl, rfl, by simp, fun k hk => ?_⟩
  · rw [heap_setCell_same _ _ _ _ _ _ (heap_setCell_same _ _ _ _ _ _ (heap_setCell_same _ _ _ _ _ _ (heap_setCell_same _ _ _ _ _ _ h)))]; rfl
  · rw [heap_setCell_other _ _ _ _ (by exact hk), heap_setCell_other _ _ _ _ (by exact hk), heap_setCell_other _ _ _ _ (by exact hk), heap_setCell_other _ _ _ _ (by exact hk)]
theorem ws_form (f : UInt8 → Bool) : ∃ x0 x1 x2 x3 : Int, ws f = #[.int .u64 x0, .int .u64 x1, .int .u64 x2, .int .u64 x3] := ⟨_, _, _, _, rfl⟩
theorem row4 {w : World} {g T : Nat} {v0 v1 v2 v3 : Value} (h : w.heap[g]? = some (.cells #[v0, v1, v2, v3] T)) :
    w.cell? ⟨g, 0, none⟩ = some v0 ∧ w.cell? ⟨g, 1, none⟩ = some v1 ∧ w.cell? ⟨g, 2, none⟩ = some v2 ∧ w.cell? ⟨g, 3, none⟩ = some v3 ∧ ∀ j, w.frozen? ⟨g, j, none⟩ = false := by
  refine ⟨?_, ?_, ?_, ?_, fun j => frozen_of_row _ _ _ _ _ h⟩ <;> rw [cell_of_row _ _ _ _ _ _ h] <;> rfl
theorem over_no {s : ByteArray} (h0 : 0 < s.size) (h : over s.data.toList = false) : ¬ s[0].toNat = 94 := by
  intro e
  unfold over at h
  rw [getD_at s 0 h0] at h
  have h1 : s[0] = 94 := UInt8.toNat_inj.1 e
  have h2 : s.data.toList.isEmpty = false := by
    cases hh : s.data.toList with
    | nil => have := list_len s; rw [hh] at this; simp at this; omega
    | cons a t => rfl
  rw [h1, h2] at h
  exact absurd h (by decide)
theorem over_yes {s : ByteArray} (h : over s.data.toList = true) : ∃ h0 : 0 < s.size, s[0].toNat = 94 := by
  unfold over at h
  rw [Bool.and_eq_true] at h
  have h0 : 0 < s.size := by
    rcases Nat.eq_zero_or_pos s.size with hz | hz
    · have : s.data.toList = [] := List.length_eq_zero_iff.1 (by rw [list_len]; exact hz)
      rw [this] at h; exact absurd h.1 (by decide)
    · exact hz
  refine ⟨h0, ?_⟩
  rw [getD_at s 0 h0] at h
  have := h.2
  rw [beq_iff_eq] at this
  rw [this]; rfl
set_option maxHeartbeats 8000000 in
set_option maxRecDepth 20000 in
theorem firstSet_plain (s : ByteArray) (ho : over s.data.toList = false) (hm : s.size ≤ 140737488355328) (w : World) :
    Calls Tryd.prog 35 #[.string s] w fun e w' => e = .returned (setT s.data.toList) ∧ Below w.heap.size w w' := by
  have HR : Hid (setT s.data.toList = .tuple #[.agg (ws (membs s.data.toList.length s.data.toList (fun _ => false)).1), .string (strB ((membs s.data.toList.length s.data.toList (fun _ => false)).2.drop 1))]) := by
    show _ = _
    unfold setT setF
    rw [if_neg (by rw [ho]; decide)]
  have HL0 : Hid (s.data.toList.length ≤ s.data.toList.length) := Nat.le_refl _
  have HS0 : Hid (s.size ≤ s.size) := Nat.le_refl _
  by_cases hz : s.size = 0
  · have hem : s.toList.isEmpty = true := str_empty hz
    clear ho
    go_enter Tryd.func35, Tryd.ntmps35
    go_wp2
    go_loopw [0, 6] (fun q _ wr => ∃ (r : ByteArray) (n : Nat) (f : UInt8 → Bool), q = .string r ∧ r.data.toList.length ≤ n ∧ membs n r.data.toList f = membs s.data.toList.length s.data.toList (fun _ => false) ∧ r.size ≤ s.size ∧ wr.heap[w.heap.size + 1]? = some (.cells (ws f) 61) ∧ wr.heap[w.heap.size]? = some (.cells #[.int .u64 0, .int .u64 0, .int .u64 0, .int .u64 0] 61) ∧ Below w.heap.size w wr) (fun q _ _ => sizeS q)
    case atStart => exact ⟨s, _, _, rfl, HL0.out, rfl, HS0.out, by rw [(two_allocs _ _ _).2, Z4_eq], (two_allocs _ _ _).1, by go_grown⟩
    case round =>
      obtain ⟨r, n, f, rfl, hn, hmb, hrs, hgs, hg0, hbel⟩ := hrel
      have HM : Hid (membs n r.data.toList f = membs s.data.toList.length s.data.toList (fun _ => false)) := hmb
      have HG : Hid (wr.heap[w.heap.size + 1]? = some (.cells (ws f) 61)) := hgs
      have HG0 : Hid (wr.heap[w.heap.size]? = some (.cells #[.int .u64 0, .int .u64 0, .int .u64 0, .int .u64 0] 61)) := hg0
      have HB : Hid (Below w.heap.size w wr) := hbel
      clear hmb hgs hg0 hbel
      by_cases hrz : r.size = 0
      · have hrem : r.toList.isEmpty = true := str_empty hrz
        have HST : Hid _ := membs_stop n r.data.toList f (stop_nil hrz)
        have HDR : Hid (strB (r.data.toList.drop 1) = r) := by
          show _ = _
          have : r.data.toList = [] := List.length_eq_zero_iff.1 (by rw [list_len]; exact hrz)
          rw [drop_full (s := r) rfl, strB_list, this]; rfl
        obtain ⟨x0, x1, x2, x3, ews⟩ := ws_form f
        have hG := HG.out
        rw [ews] at hG
        obtain ⟨c0, c1, c2, c3, cf⟩ := row4 (hG)
        obtain ⟨d0, d1, d2, d3, df⟩ := row4 (HG0.out)
        clear hG
        go_wp2
        obtain ⟨hF, hO⟩ := heap_set4 wr w.heap.size 61 _ _ _ _ (.int .u64 x0) (.int .u64 x1) (.int .u64 x2) (.int .u64 x3) HG0.out
        obtain ⟨k0, k1, k2, k3, kf⟩ := row4 (hF)
        refine bodyPost_ret (v := .tuple #[.agg #[.int .u64 x0, .int .u64 x1, .int .u64 x2, .int .u64 x3], .string r]) (by simp [results, Tryd.results35, go_sem, k0, k1, k2, k3]) rfl ⟨?_, ?_⟩
        · rw [HR.out, ← HM.out, HST.out, HDR.out, ews]
        · exact HB.out.trans (hO.below (Nat.le_refl _))
      · exact absurd hrz (by omega)
  · have hem : s.toList.isEmpty = false := str_full hz
    have h0 : 0 < s.size := by omega
    have hno := over_no h0 ho
    obtain ⟨c, e0⟩ : ∃ c, s[0].toNat = c := ⟨_, rfl⟩
    rw [e0] at hno
    have hc : ((c : Int) == 94) = false := by simp; omega
    clear ho
    go_enter Tryd.func35, Tryd.ntmps35
    go_wp2
    go_loopw [0, 6] (fun q _ wr => ∃ (r : ByteArray) (n : Nat) (f : UInt8 → Bool), q = .string r ∧ r.data.toList.length ≤ n ∧ membs n r.data.toList f = membs s.data.toList.length s.data.toList (fun _ => false) ∧ r.size ≤ s.size ∧ wr.heap[w.heap.size + 1]? = some (.cells (ws f) 61) ∧ wr.heap[w.heap.size]? = some (.cells #[.int .u64 0, .int .u64 0, .int .u64 0, .int .u64 0] 61) ∧ Below w.heap.size w wr) (fun q _ _ => sizeS q)
    case atStart => exact ⟨s, _, _, rfl, HL0.out, rfl, HS0.out, by rw [(two_allocs _ _ _).2, Z4_eq], (two_allocs _ _ _).1, by go_grown⟩
    case round =>
      obtain ⟨r, n, f, rfl, hn, hmb, hrs, hgs, hg0, hbel⟩ := hrel
      have HM : Hid (membs n r.data.toList f = membs s.data.toList.length s.data.toList (fun _ => false)) := hmb
      have HG : Hid (wr.heap[w.heap.size + 1]? = some (.cells (ws f) 61)) := hgs
      have HG0 : Hid (wr.heap[w.heap.size]? = some (.cells #[.int .u64 0, .int .u64 0, .int .u64 0, .int .u64 0] 61)) := hg0
      have HB : Hid (Below w.heap.size w wr) := hbel
      clear hmb hgs hg0 hbel
      by_cases hrz : r.size = 0
      · have hrem : r.toList.isEmpty = true := str_empty hrz
        have HST : Hid _ := membs_stop n r.data.toList f (stop_nil hrz)
        have HDR : Hid (strB (r.data.toList.drop 1) = r) := by
          show _ = _
          have : r.data.toList = [] := List.length_eq_zero_iff.1 (by rw [list_len]; exact hrz)
          rw [drop_full (s := r) rfl, strB_list, this]; rfl
        obtain ⟨x0, x1, x2, x3, ews⟩ := ws_form f
        have hG := HG.out
        rw [ews] at hG
        obtain ⟨c0, c1, c2, c3, cf⟩ := row4 (hG)
        obtain ⟨d0, d1, d2, d3, df⟩ := row4 (HG0.out)
        clear hG
        go_wp2
        obtain ⟨hF, hO⟩ := heap_set4 wr w.heap.size 61 _ _ _ _ (.int .u64 x0) (.int .u64 x1) (.int .u64 x2) (.int .u64 x3) HG0.out
        obtain ⟨k0, k1, k2, k3, kf⟩ := row4 (hF)
        refine bodyPost_ret (v := .tuple #[.agg #[.int .u64 x0, .int .u64 x1, .int .u64 x2, .int .u64 x3], .string r]) (by simp [results, Tryd.results35, go_sem, k0, k1, k2, k3]) rfl ⟨?_, ?_⟩
        · rw [HR.out, ← HM.out, HST.out, HDR.out, ews]
        · exact HB.out.trans (hO.below (Nat.le_refl _))
      · have hrem : r.toList.isEmpty = false := str_full hrz
        have hr0 : 0 < r.size := by omega
        obtain ⟨d, ed⟩ : ∃ c, r[0].toNat = c := ⟨_, rfl⟩
        by_cases hd : d = 93
        · subst hd
          have HST : Hid _ := membs_stop n r.data.toList f (stop_end hr0 ed)
          have HDR : Hid (strB (r.data.toList.drop 1) = r.extract 1 r.size) := by
            show _ = _
            rw [← ext_drop]; rfl
          obtain ⟨x0, x1, x2, x3, ews⟩ := ws_form f
          have hG := HG.out
          rw [ews] at hG
          have hrl : 1 ≤ r.size := by omega
          obtain ⟨c0, c1, c2, c3, cf⟩ := row4 (hG)
          obtain ⟨d0, d1, d2, d3, df⟩ := row4 (HG0.out)
          clear hG
          go_wp2
          obtain ⟨hF, hO⟩ := heap_set4 wr w.heap.size 61 _ _ _ _ (.int .u64 x0) (.int .u64 x1) (.int .u64 x2) (.int .u64 x3) HG0.out
          obtain ⟨k0, k1, k2, k3, kf⟩ := row4 (hF)
          refine bodyPost_ret (v := .tuple #[.agg #[.int .u64 x0, .int .u64 x1, .int .u64 x2, .int .u64 x3], .string (r.extract 1 r.size)]) (by simp [results, Tryd.results35, go_sem, k0, k1, k2, k3]) rfl ⟨?_, ?_⟩
          · rw [HR.out, ← HM.out, HST.out, HDR.out, ews]
          · exact HB.out.trans (hO.below (Nat.le_refl _))
        · have hdb : ((d : Int) != 93) = true := by simp; omega
          obtain ⟨m, hnm, hml, hmg⟩ := membs_go n r.data.toList f (stop_no hr0 (by omega)) hn
          have HMG : Hid _ := hmg
          clear hmg
          by_cases hir : isR r.data.toList = true
          · have h2 := isR_len hir
            obtain ⟨mn, mf⟩ := mem_rng hir h2
            rw [mn, mf] at HMG
            rw [mn] at hml
            have hAR : ∀ w' : World, w'.heap[w.heap.size + 1]? = some (.cells (ws f) 61) → Calls Tryd.prog 42 #[.pointer (some ⟨w.heap.size + 1, 0, none⟩), .int .u8 (d : Int), .int .u8 (r[2].toNat : Int)] w' fun e w'' => (∃ v, e = .returned v) ∧ w''.heap[w.heap.size + 1]? = some (.cells (ws (orF f (rngF r[0] r[2]))) 61) ∧ Only w' w'' (w.heap.size + 1) := fun w' h => by
              have := addRange_p w' (w.heap.size + 1) 61 f r[0] r[2] h
              rw [ed] at this
              exact this
            have HAR : Hid _ := hAR
            clear hAR
            obtain ⟨x, ex⟩ : ∃ c, r[2].toNat = c := ⟨_, rfl⟩
            rw [ex] at HAR
            have h3 : 3 ≤ r.size := h2
            go_wp2_with fail
            refine (isRange_any r (by omega) _).mono ?_
            rintro e w1 ⟨rfl, rfl⟩
            rw [hir]
            go_wp2_with fail
            go_region_with ((go_at_call 42; refine (show Calls _ _ _ _ _ from HAR.out w1.drew HG.out).mono ?_; rintro e w2 ⟨⟨v2, rfl⟩, hg2, ho2⟩))
            all_goals
              have HG2 : Hid _ := hg2
              have HO2 : Hid (Only _ w2 (w.heap.size + 1)) := ho2
              clear hg2 ho2
              go_wp2
              go_roundw
              case rel => exact ⟨_, m, _, rfl, by rw [ext_drop]; exact hml, by rw [ext_drop, ← HMG.out]; exact HM.out, by rw [ext_size _ _ _ (Nat.le_refl _)]; omega, HG2.out, (HO2.out.other _ (by omega)).trans HG0.out, (below_dn HB.out 1).trans (HO2.out.below (by omega))⟩
              case measure => simp only [sizeS]; rw [ext_size _ _ _ (Nat.le_refl _)]; omega
          · have hir' : isR r.data.toList = false := by simpa using hir
            obtain ⟨mn, mf⟩ := mem_one hir'
            rw [mn, mf] at HMG
            rw [mn] at hml
            have hpos := firstN_pos r.data.toList
            go_wp2_with fail
            refine (isRange_any r (by omega) _).mono ?_
            rintro e w1 ⟨rfl, rfl⟩
            rw [hir']
            go_wp2_with fail
            refine (firstByte_any r hr0 (by omega) _).mono ?_
            rintro e w2 ⟨rfl, nd, hw2⟩
            have HG1 : Hid (w2.heap[w.heap.size + 1]? = some (.cells (ws f) 61)) := by rw [hw2]; exact HG.out
            have HG01 : Hid (w2.heap[w.heap.size]? = some (.cells #[.int .u64 0, .int .u64 0, .int .u64 0, .int .u64 0] 61)) := by rw [hw2]; exact HG0.out
            have HB1 : Hid (Below w.heap.size w w2) := by rw [hw2]; exact below_dn HB.out nd
            clear hw2
            unfold firstT
            obtain ⟨rb, erb⟩ : ∃ rb, dropB r (firstN r.data.toList) = rb := ⟨_, rfl⟩
            have HRB : Hid (rb.data.toList = r.data.toList.drop (firstN r.data.toList) ∧ rb.size < r.size) := by
              refine ⟨by rw [← erb, dropB_list], ?_⟩
              rw [← erb, dropB_size]; omega
            rw [erb]
            clear erb
            go_wp2_with fail
            refine (add_p _ (w.heap.size + 1) 61 f (firstB r.data.toList) HG1.out).mono ?_
            rintro e w3 ⟨⟨v3, rfl⟩, hg3, ho3⟩
            have HG3 : Hid _ := hg3
            have HO3 : Hid (Only w2 w3 (w.heap.size + 1)) := ho3
            clear hg3 ho3
            go_wp2
            go_roundw
            case rel => exact ⟨_, m, _, rfl, by rw [HRB.out.1]; exact hml, by rw [HRB.out.1, ← HMG.out]; exact HM.out, by have := HRB.out.2; omega, HG3.out, (HO3.out.other _ (by omega)).trans HG01.out, HB1.out.trans (HO3.out.below (by omega))⟩
            case measure => exact HRB.out.2
set_option maxHeartbeats 8000000 in
set_option maxRecDepth 20000 in
theorem firstSet_over (s : ByteArray) (ho : over s.data.toList = true) (hm : s.size ≤ 140737488355328) (w : World) :
    Calls Tryd.prog 35 #[.string s] w fun e w' => e = .returned (setT s.data.toList) ∧ Below w.heap.size w w' := by
  obtain ⟨h0, e0⟩ := over_yes ho
  have hem : s.toList.isEmpty = false := str_full (by omega)
  have hs1 : 1 ≤ s.size := h0
  obtain ⟨s1, es1⟩ : ∃ s1, s.extract 1 s.size = s1 := ⟨_, rfl⟩
  have HR : Hid (setT s.data.toList = .tuple #[.agg (ws (notF (membs s.data.toList.length s1.data.toList (fun _ => false)).1)), .string (strB ((membs s.data.toList.length s1.data.toList (fun _ => false)).2.drop 1))]) := by
    show _ = _
    unfold setT setF
    rw [if_pos ho, ← es1, ext_drop]
  have HL0 : Hid (s1.data.toList.length ≤ s.data.toList.length) := by show _ ≤ _; rw [← es1, ext_drop, List.length_drop]; omega
  have HS0 : Hid (s1.size ≤ s.size) := by show _ ≤ _; rw [← es1, ext_size _ _ _ (Nat.le_refl _)]; omega
  clear ho
  go_enter Tryd.func35, Tryd.ntmps35
  go_wp2
  go_loopw [0, 6] (fun q _ wr => ∃ (r : ByteArray) (n : Nat) (f : UInt8 → Bool), q = .string r ∧ r.data.toList.length ≤ n ∧ membs n r.data.toList f = membs s.data.toList.length s1.data.toList (fun _ => false) ∧ r.size ≤ s.size ∧ wr.heap[w.heap.size + 1]? = some (.cells (ws f) 61) ∧ wr.heap[w.heap.size]? = some (.cells #[.int .u64 0, .int .u64 0, .int .u64 0, .int .u64 0] 61) ∧ Below w.heap.size w wr) (fun q _ _ => sizeS q)
  case atStart => exact ⟨s1, _, _, rfl, HL0.out, rfl, HS0.out, by rw [(two_allocs _ _ _).2, Z4_eq], (two_allocs _ _ _).1, by go_grown⟩
  case round =>
    obtain ⟨r, n, f, rfl, hn, hmb, hrs, hgs, hg0, hbel⟩ := hrel
    have HM : Hid (membs n r.data.toList f = membs s.data.toList.length s1.data.toList (fun _ => false)) := hmb
    have HG : Hid (wr.heap[w.heap.size + 1]? = some (.cells (ws f) 61)) := hgs
    have HG0 : Hid (wr.heap[w.heap.size]? = some (.cells #[.int .u64 0, .int .u64 0, .int .u64 0, .int .u64 0] 61)) := hg0
    have HB : Hid (Below w.heap.size w wr) := hbel
    clear hmb hgs hg0 hbel
    by_cases hrz : r.size = 0
    · have hrem : r.toList.isEmpty = true := str_empty hrz
      have HST : Hid _ := membs_stop n r.data.toList f (stop_nil hrz)
      have HDR : Hid (strB (r.data.toList.drop 1) = r) := by
        show _ = _
        have : r.data.toList = [] := List.length_eq_zero_iff.1 (by rw [list_len]; exact hrz)
        rw [drop_full (s := r) rfl, strB_list, this]; rfl
      obtain ⟨x0, x1, x2, x3, ews⟩ := ws_form f
      have hG := HG.out
      rw [ews] at hG
      have HTU : Hid (∀ w' : World, _) := fun w' => turned_any w' f
      rw [ews] at HTU
      obtain ⟨y0, y1, y2, y3, ewy⟩ := ws_form (notF f)
      rw [ewy] at HTU
      have hsz0 := row_lt HG0.out
      have hsz1 := row_lt HG.out
      have hG0 := HG0.out
      obtain ⟨c0, c1, c2, c3, cf⟩ := row4 (hG)
      have HGw : Hid (wr.heap[w.heap.size + 1]? = some (.cells #[.int .u64 x0, .int .u64 x1, .int .u64 x2, .int .u64 x3] 61)) := hG
      clear hG hG0
      go_wp2_with fail
      refine (show Calls _ _ _ _ _ from HTU.out wr).mono ?_
      rintro e w2 ⟨rfl, hb2⟩
      have hg2 := (hb2.block _ hsz1).trans HGw.out
      have HG2 : Hid _ := hg2
      have HB2 : Hid (Below w.heap.size w w2) := HB.out.trans (hb2.mono HB.out.size)
      have HG20 : Hid _ := (hb2.block _ hsz0).trans HG0.out
      obtain ⟨m0, m1, m2, m3, mf⟩ := row4 (hg2)
      obtain ⟨n0, n1, n2, n3, nf⟩ := row4 (HG20.out)
      clear hg2 hb2
      go_wp2
      obtain ⟨hF1, hO1⟩ := heap_set4 w2 (w.heap.size + 1) 61 _ _ _ _ (.int .u64 y0) (.int .u64 y1) (.int .u64 y2) (.int .u64 y3) HG2.out
      obtain ⟨hF, hO⟩ := heap_set4 _ w.heap.size 61 _ _ _ _ (.int .u64 y0) (.int .u64 y1) (.int .u64 y2) (.int .u64 y3) ((hO1.other _ (by omega)).trans HG20.out)
      obtain ⟨k0, k1, k2, k3, kf⟩ := row4 (hF)
      refine bodyPost_ret (v := .tuple #[.agg #[.int .u64 y0, .int .u64 y1, .int .u64 y2, .int .u64 y3], .string r]) (by simp [results, Tryd.results35, go_sem, k0, k1, k2, k3]) rfl ⟨?_, ?_⟩
      · rw [HR.out, ← HM.out, HST.out, HDR.out, ewy]
      · exact HB2.out.trans ((hO1.below (Nat.le_succ _)).trans (hO.below (Nat.le_refl _)))
    · have hrem : r.toList.isEmpty = false := str_full hrz
      have hr0 : 0 < r.size := by omega
      obtain ⟨d, ed⟩ : ∃ c, r[0].toNat = c := ⟨_, rfl⟩
      by_cases hd : d = 93
      · subst hd
        have HST : Hid _ := membs_stop n r.data.toList f (stop_end hr0 ed)
        have HDR : Hid (strB (r.data.toList.drop 1) = r.extract 1 r.size) := by
          show _ = _
          rw [← ext_drop]; rfl
        obtain ⟨x0, x1, x2, x3, ews⟩ := ws_form f
        have hG := HG.out
        rw [ews] at hG
        have hrl : 1 ≤ r.size := by omega
        have HTU : Hid (∀ w' : World, _) := fun w' => turned_any w' f
        rw [ews] at HTU
        obtain ⟨y0, y1, y2, y3, ewy⟩ := ws_form (notF f)
        rw [ewy] at HTU
        have hsz0 := row_lt HG0.out
        have hsz1 := row_lt HG.out
        have hG0 := HG0.out
        obtain ⟨c0, c1, c2, c3, cf⟩ := row4 (hG)
        have HGw : Hid (wr.heap[w.heap.size + 1]? = some (.cells #[.int .u64 x0, .int .u64 x1, .int .u64 x2, .int .u64 x3] 61)) := hG
        clear hG hG0
        go_wp2_with fail
        refine (show Calls _ _ _ _ _ from HTU.out wr).mono ?_
        rintro e w2 ⟨rfl, hb2⟩
        have hg2 := (hb2.block _ hsz1).trans HGw.out
        have HG2 : Hid _ := hg2
        have HB2 : Hid (Below w.heap.size w w2) := HB.out.trans (hb2.mono HB.out.size)
        have HG20 : Hid _ := (hb2.block _ hsz0).trans HG0.out
        obtain ⟨m0, m1, m2, m3, mf⟩ := row4 (hg2)
        obtain ⟨n0, n1, n2, n3, nf⟩ := row4 (HG20.out)
        clear hg2 hb2
        go_wp2
        obtain ⟨hF1, hO1⟩ := heap_set4 w2 (w.heap.size + 1) 61 _ _ _ _ (.int .u64 y0) (.int .u64 y1) (.int .u64 y2) (.int .u64 y3) HG2.out
        obtain ⟨hF, hO⟩ := heap_set4 _ w.heap.size 61 _ _ _ _ (.int .u64 y0) (.int .u64 y1) (.int .u64 y2) (.int .u64 y3) ((hO1.other _ (by omega)).trans HG20.out)
        obtain ⟨k0, k1, k2, k3, kf⟩ := row4 (hF)
        refine bodyPost_ret (v := .tuple #[.agg #[.int .u64 y0, .int .u64 y1, .int .u64 y2, .int .u64 y3], .string (r.extract 1 r.size)]) (by simp [results, Tryd.results35, go_sem, k0, k1, k2, k3]) rfl ⟨?_, ?_⟩
        · rw [HR.out, ← HM.out, HST.out, HDR.out, ewy]
        · exact HB2.out.trans ((hO1.below (Nat.le_succ _)).trans (hO.below (Nat.le_refl _)))
      · have hdb : ((d : Int) != 93) = true := by simp; omega
        obtain ⟨m, hnm, hml, hmg⟩ := membs_go n r.data.toList f (stop_no hr0 (by omega)) hn
        have HMG : Hid _ := hmg
        clear hmg
        by_cases hir : isR r.data.toList = true
        · have h2 := isR_len hir
          obtain ⟨mn, mf⟩ := mem_rng hir h2
          rw [mn, mf] at HMG
          rw [mn] at hml
          have hAR : ∀ w' : World, w'.heap[w.heap.size + 1]? = some (.cells (ws f) 61) → Calls Tryd.prog 42 #[.pointer (some ⟨w.heap.size + 1, 0, none⟩), .int .u8 (d : Int), .int .u8 (r[2].toNat : Int)] w' fun e w'' => (∃ v, e = .returned v) ∧ w''.heap[w.heap.size + 1]? = some (.cells (ws (orF f (rngF r[0] r[2]))) 61) ∧ Only w' w'' (w.heap.size + 1) := fun w' h => by
            have := addRange_p w' (w.heap.size + 1) 61 f r[0] r[2] h
            rw [ed] at this
            exact this
          have HAR : Hid _ := hAR
          clear hAR
          obtain ⟨x, ex⟩ : ∃ c, r[2].toNat = c := ⟨_, rfl⟩
          rw [ex] at HAR
          have h3 : 3 ≤ r.size := h2
          go_wp2_with fail
          refine (isRange_any r (by omega) _).mono ?_
          rintro e w1 ⟨rfl, rfl⟩
          rw [hir]
          go_wp2_with fail
          go_region_with ((go_at_call 42; refine (show Calls _ _ _ _ _ from HAR.out w1.drew HG.out).mono ?_; rintro e w2 ⟨⟨v2, rfl⟩, hg2, ho2⟩))
          all_goals
            have HG2 : Hid _ := hg2
            have HO2 : Hid (Only _ w2 (w.heap.size + 1)) := ho2
            clear hg2 ho2
            go_wp2
            go_roundw
            case rel => exact ⟨_, m, _, rfl, by rw [ext_drop]; exact hml, by rw [ext_drop, ← HMG.out]; exact HM.out, by rw [ext_size _ _ _ (Nat.le_refl _)]; omega, HG2.out, (HO2.out.other _ (by omega)).trans HG0.out, (below_dn HB.out 1).trans (HO2.out.below (by omega))⟩
            case measure => simp only [sizeS]; rw [ext_size _ _ _ (Nat.le_refl _)]; omega
        · have hir' : isR r.data.toList = false := by simpa using hir
          obtain ⟨mn, mf⟩ := mem_one hir'
          rw [mn, mf] at HMG
          rw [mn] at hml
          have hpos := firstN_pos r.data.toList
          go_wp2_with fail
          refine (isRange_any r (by omega) _).mono ?_
          rintro e w1 ⟨rfl, rfl⟩
          rw [hir']
          go_wp2_with fail
          refine (firstByte_any r hr0 (by omega) _).mono ?_
          rintro e w2 ⟨rfl, nd, hw2⟩
          have HG1 : Hid (w2.heap[w.heap.size + 1]? = some (.cells (ws f) 61)) := by rw [hw2]; exact HG.out
          have HG01 : Hid (w2.heap[w.heap.size]? = some (.cells #[.int .u64 0, .int .u64 0, .int .u64 0, .int .u64 0] 61)) := by rw [hw2]; exact HG0.out
          have HB1 : Hid (Below w.heap.size w w2) := by rw [hw2]; exact below_dn HB.out nd
          clear hw2
          unfold firstT
          obtain ⟨rb, erb⟩ : ∃ rb, dropB r (firstN r.data.toList) = rb := ⟨_, rfl⟩
          have HRB : Hid (rb.data.toList = r.data.toList.drop (firstN r.data.toList) ∧ rb.size < r.size) := by
            refine ⟨by rw [← erb, dropB_list], ?_⟩
            rw [← erb, dropB_size]; omega
          rw [erb]
          clear erb
          go_wp2_with fail
          refine (add_p _ (w.heap.size + 1) 61 f (firstB r.data.toList) HG1.out).mono ?_
          rintro e w3 ⟨⟨v3, rfl⟩, hg3, ho3⟩
          have HG3 : Hid _ := hg3
          have HO3 : Hid (Only w2 w3 (w.heap.size + 1)) := ho3
          clear hg3 ho3
          go_wp2
          go_roundw
          case rel => exact ⟨_, m, _, rfl, by rw [HRB.out.1]; exact hml, by rw [HRB.out.1, ← HMG.out]; exact HM.out, by have := HRB.out.2; omega, HG3.out, (HO3.out.other _ (by omega)).trans HG01.out, HB1.out.trans (HO3.out.below (by omega))⟩
          case measure => exact HRB.out.2
theorem firstSet_any (s : ByteArray) (hm : s.size ≤ 140737488355328) (w : World) :
    Calls Tryd.prog 35 #[.string s] w fun e w' => e = .returned (setT s.data.toList) ∧ Below w.heap.size w w' := by
  by_cases h : over s.data.toList = true
  · exact firstSet_over s h hm w
  · exact firstSet_plain s (by simpa using h) hm w
end Go.Proofs.YtpckadpnedfkkaaDoor
