import Derived.Test.YtlheilkofibogaaGreatQAB
import Derived.Lib.Builder
import Derived.Lib.MakeNoZero
import Derived.Lib.UnsafeStr
import Derived.Laws.Externs
import Derived.Laws.IdiomCopy
import Derived.Laws.OwnMore
import Derived.Maps.OwnSet
import Derived.Maps.RangeWalk
import Derived.Maps.Ext
import Derived.StringKeys
namespace Go.Proofs.YtlheilkofibogaaGreat.P
open Go.RowKit
set_option linter.unusedVariables false
def bcells (l : List UInt8) : List Value := l.map fun b => Value.int .u8 (b.toNat : Int)
theorem bcells_snoc (l : List UInt8) (b : UInt8) : bcells (l ++ [b]) = bcells l ++ [.int .u8 (b.toNat : Int)] := by unfold bcells; rw [List.map_append]; rfl
theorem bcells_str (l : List UInt8) (s : ByteArray) : bcells (l ++ s.data.toList) = bcells l ++ Lib.strCells s := by unfold bcells Lib.strCells; rw [List.map_append]
theorem info5 : (Tryz.prog.info? 5).map (fun i => (i.zero, i.size, i.bytes)) = some (some (.int .u8 0), 1, 1) := by kernel_rfl
theorem bcells_app (a b : List UInt8) : bcells (a ++ b) = bcells a ++ bcells b := by unfold bcells; rw [List.map_append]
/-- what is no row of bytes, and not the block b, stands as it stood. -/
def Kept (b : Nat) (w w' : World) : Prop := ∀ (k : Nat) (cs : Array Value) (T : TypeId) (fr : Nat × Nat), w.heap[k]? = some (.cells cs T fr) → k ≠ b → T ≠ 5 → w'.heap[k]? = some (.cells cs T fr)
theorem Kept.trans {b : Nat} {a c d : World} (h : Kept b a c) (h2 : Kept b c d) : Kept b a d := fun k cs T fr e hk hT => h2 k cs T fr (h k cs T fr e hk hT) hk hT
theorem Kept.below {b : Nat} {w w' : World} (h : Below w.heap.size w w') : Kept b w w' := fun k cs T fr e _ _ => by rw [h.block k (row_lt e)]; exact e
/-- the maker's block: its builder's two cells, its width. -/
def mcells (b : Nat) (v : Value) (W : Int) : Array Value := #[.pointer (some ⟨b, 0, none⟩), v]
def MakerAt (B b : Nat) (W : Int) (l : List UInt8) (w : World) : Prop :=
  B ≤ b ∧ ∃ v, w.heap[b]? = some (.cells (mcells b v W) 127 (0, 0)) ∧ w.ownsRow B 5 1 v l.length (bcells l) ∧ v.ownBlock ≠ some b
theorem liesB : liesAt Tryz.prog Tryz.prog.depth 127 (2 / Tryz.prog.cellsOf 127) 0 127 1 = true := by kernel_rfl
theorem sizeB : (Tryz.prog.info? 127).map (·.size) = some 2 := by kernel_rfl
theorem cell_heap {w : World} {b : Nat} {cs : Array Value} {T : TypeId} {fr : Nat × Nat} (hb : w.heap[b]? = some (.cells cs T fr)) (j : Nat) : w.cell? ⟨b, j, none⟩ = cs[j]? := by
  simp [World.cell?, hb]
set_option maxHeartbeats 1000000 in
set_option maxRecDepth 100000 in
theorem copyCheck_used (b : Nat) (w : World) (h0 : w.cell? ⟨b, 0, none⟩ = some (.pointer (some ⟨b, 0, none⟩))) :
    Calls Tryz.prog 102 #[.pointer (some ⟨b, 0, none⟩)] w fun e w' => e = .returned (.tuple #[]) ∧ w' = w := by
  obtain ⟨j, hj, _⟩ := Option.map_eq_some_iff.1 sizeB
  go_enter Tryz.func102, Tryz.ntmps102
  go_wp2
  rw [Lib.run_neq_ptr_same w _ Tryz.underlying124 hj]
  go_wp2
  go_end0
  exact ⟨rfl, rfl⟩
set_option maxHeartbeats 1000000 in
set_option maxRecDepth 100000 in
theorem copyCheck_fresh (b : Nat) (w : World) (h0 : w.cell? ⟨b, 0, none⟩ = some (.pointer none)) (hsh : w.shape? b = some (127, 2)) (hfz : w.frozen? ⟨b, 0, none⟩ = false) :
    Calls Tryz.prog 102 #[.pointer (some ⟨b, 0, none⟩)] w fun e w' => e = .returned (.tuple #[]) ∧ w' = w.setCell ⟨b, 0, none⟩ (.pointer (some ⟨b, 0, none⟩)) := by
  obtain ⟨j, hj, hjs⟩ := Option.map_eq_some_iff.1 sizeB
  go_enter Tryz.func102, Tryz.ntmps102
  go_wp2
  rw [Lib.run_to_unsafe w ⟨b, 0, none⟩ Tryz.underlying124 Tryz.underlying156 hj (by rw [hjs]; decide) hsh (show (0 : Nat) < 2 by omega)]
  simp only [Result.andThen]
  rw [Oper.upon_value]
  go_wp2
  rw [run_callFunc_extern Tryz.func113 (by kernel_rfl) (by kernel_rfl) (by kernel_rfl) (e := Extern.AbiNoEscape.same) (by kernel_rfl)]
  rw [Lib.run_noEscape]
  simp only [Result.andThen]
  rw [Oper.upon_value]
  go_wp2
  rw [Lib.run_from_unsafe w ⟨b, 0, none⟩ Tryz.underlying156 Tryz.underlying124 hj hsh liesB]
  simp only [Result.andThen]
  rw [Oper.upon_value]
  go_wp2
  go_end0
  exact ⟨rfl, rfl⟩
theorem maker_put {B b : Nat} {W : Int} {v v' : Value} {l : List UInt8} {w : World} (hB : B ≤ b) (hb : w.heap[b]? = some (.cells (mcells b v W) 127 (0, 0))) (hown : w.ownsRow B 5 1 v' l.length (bcells l)) :
    MakerAt B b W l (w.setCell ⟨b, 1, none⟩ v') := by
  have hne : v'.ownBlock ≠ some b := by
    intro e
    rcases hown.2 with ⟨h, _⟩ | ⟨g, cap, cur, h, _, hg, _⟩
    · subst h; simp [Value.ownBlock] at e
    · subst h
      simp [Value.ownBlock] at e
      subst e
      rw [hb] at hg
      injection hg with hg
      injection hg with _ h2
      exact absurd h2 (by decide)
  refine ⟨hB, v', ?_, ?_, hne⟩
  · simp [World.setCell, Array.getElem?_modify, hb, mcells]
  · refine hown.kept (row := some b) ⟨rfl, rfl, rfl, by simp [World.setCell], fun k _ hk => Below.heap_setCell _ _ _ _ (fun e => hk (by simp [e]))⟩ ?_
    exact Or.inr hne
set_option maxHeartbeats 2000000 in
set_option maxRecDepth 100000 in
theorem writeString_any (B b : Nat) (W : Int) (l : List UInt8) (s : ByteArray) (w : World) (h : MakerAt B b W l w) (hlen : l.length + s.size ≤ 140737488355328) (hBw : B ≤ w.heap.size) :
    Calls Tryz.prog 82 #[.pointer (some ⟨b, 0, none⟩), .string s] w fun e w' => e = .returned (.tuple #[.int .i64 s.size, .nilIface]) ∧ (MakerAt B b W (l ++ s.data.toList) w' ∧ Below B w w') := by
  obtain ⟨i0, hi, hz0, hz1, hz2⟩ := info_parts info5
  obtain ⟨hB, v, hbk, hown, hne⟩ := h
  have c0 : w.cell? ⟨b, 0, none⟩ = some (.pointer (some ⟨b, 0, none⟩)) := by rw [cell_heap hbk]; rfl
  have c1 : w.cell? ⟨b, 1, none⟩ = some v := by rw [cell_heap hbk]; rfl
  go_enter Tryz.func82, Tryz.ntmps82
  go_wp2_with fail
  refine (copyCheck_used b w c0).mono ?_
  rintro e w1 ⟨rfl, hw1⟩
  subst w1
  go_wp2_with (at_builtin; go_must (refine Lib.wpList_append_own_string _ rfl _ _ 125 9 rfl B 5 i0 Tryz.underlying125 Tryz.underlying9 hi hz0 hz1 hz2 _ _ _ rfl hown s rfl ?c3 ?c4 ?c5 ?_))
  case c3 => unfold maxLen; omega
  case c4 => omega
  case c5 => omega
  intro v' w2 hown' hgrow _
  have hb2 : w2.heap[b]? = some (.cells (mcells b v W) 127 (0, 0)) := by
    rw [hgrow.block b (row_lt hbk) (fun e => hne e.symm)]
    exact hbk
  have d0 : w2.cell? ⟨b, 0, none⟩ = some (.pointer (some ⟨b, 0, none⟩)) := by rw [cell_heap hb2]; rfl
  have d1 : w2.cell? ⟨b, 1, none⟩ = some v := by rw [cell_heap hb2]; rfl
  have f1 : w2.frozen? ⟨b, 1, none⟩ = false := Lib.frozen_of_heap hb2 1
  obtain ⟨ao, n', cap, rfl⟩ : ∃ ao n' cap, v' = .slice ao n' cap := by
    obtain ⟨p, c, e⟩ := own_form hown'
    exact ⟨_, _, _, e⟩
  have HO2 : Hid (w2.ownsRow B 5 1 (.slice ao n' cap) (l ++ s.data.toList).length (bcells (l ++ s.data.toList))) := by
    rw [bcells_str, List.length_append, list_len]; exact hown'
  clear hown'
  go_wp2
  go_ret2
  refine ⟨rfl, maker_put hB hb2 HO2.out, ?_⟩
  exact ((Below.refl B w).grown hgrow hBw (fun k hk => (hown.lt k hk).1)).setCell (p := ⟨b, 1, none⟩) hB _
set_option maxHeartbeats 2000000 in
set_option maxRecDepth 100000 in
theorem string_any (B b : Nat) (W : Int) (l : List UInt8) (w : World) (h : MakerAt B b W l w) (h0 : l ≠ []) :
    Calls Tryz.prog 84 #[.pointer (some ⟨b, 0, none⟩)] w fun e w' => e = .returned (.string (strB l)) ∧ Below B w w' := by
  obtain ⟨hB, v, hbk, hown, hne⟩ := h
  have hl0 : l.length ≠ 0 := by simpa using h0
  obtain ⟨g, cap, cur, rfl, hbg, hg, hnc, hcm, hcs, htake⟩ : ∃ g cap cur, v = .slice (some ⟨g, 0, none⟩) l.length cap ∧ B ≤ g ∧ w.heap[g]? = some (.cells cur 5 (0, 0)) ∧ l.length ≤ cap ∧ cap ≤ maxLen ∧ cur.size = cap * 1 ∧ cur.toList.take (l.length * 1) = bcells l := by
    rcases hown.2 with ⟨_, hz⟩ | ⟨g, cap, cur, hv, r⟩
    · exact absurd hz hl0
    · exact ⟨g, cap, cur, hv, r⟩
  have c1 : w.drew.cell? ⟨b, 1, none⟩ = some (.slice (some ⟨g, 0, none⟩) l.length cap) := by
    have : w.drew.heap[b]? = some (.cells (mcells b (.slice (some ⟨g, 0, none⟩) l.length cap) W) 127 (0, 0)) := hbk
    rw [cell_heap this]; rfl
  have hSD : (Builtin.unsafeSliceData_ #[125] 147 #[.slice (some ⟨g, 0, none⟩) l.length cap]).run Tryz.prog w.drew = .ok (.pointer (some ⟨g, 0, none⟩)) w.drew :=
    Lib.run_unsafeSliceData_row _ _ _ _ _ _ (by omega)
  have hUS : (Builtin.unsafeString_ #[147, 3] 9 #[.pointer (some ⟨g, 0, none⟩), .int .i64 l.length]).run Tryz.prog w.drew = .ok (.string (strB l)) (w.drew.freeze ⟨g, 0, none⟩ l.length) := by
    refine Lib.run_unsafeString_row w.drew 147 3 9 5 Tryz.underlying147 (by kernel_rfl) g cur.size (by have hg' : w.drew.heap[g]? = some (.cells cur 5 (0, 0)) := hg; simp [World.shape?, hg']) l h0 (by omega) (by unfold maxLen at hcm; omega) ?_
    intro j x hx
    have := hown.cells (g := g) rfl j (.int .u8 x.toNat) (by simp [bcells, hx])
    exact this
  clear htake hown hne
  go_enter Tryz.func84, Tryz.ntmps84
  go_wp2
  go_region
  all_goals (go_wp2; go_ret; exact ⟨rfl, Lib.below_freeze (Below.drew (Below.refl B w)) (p := ⟨g, 0, none⟩) hbg _⟩)
end Go.Proofs.YtlheilkofibogaaGreat.P
namespace Go.Proofs.YtlheilkofibogaaGreat
open Go.RowKit
set_option linter.unusedVariables false
set_option linter.unusedSimpArgs false
theorem plit1 : (⟨#[46]⟩ : ByteArray).toList = [46] := by rw [ByteArray.toList_eq]
theorem plit2 : (⟨#[46, 46]⟩ : ByteArray).toList = [46, 46] := by rw [ByteArray.toList_eq]
set_option maxHeartbeats 4000000 in
theorem isSign_any (b : UInt8) (w : World) : Calls Tryz.prog 108 #[.int .u8 (b.toNat : Int)] w fun e w' => e = .returned (.bool (okC b.toNat)) ∧ w' = w := by
  obtain ⟨c, hc⟩ : ∃ c, b.toNat = c := ⟨_, rfl⟩
  rw [hc]
  clear hc
  go_enter Tryz.func108, Tryz.ntmps108
  go_wp2
  all_goals
    go_ret
    refine ⟨?_, rfl⟩
    refine congrArg (fun x => Ending.returned (.bool x)) ?_
    rw [Bool.eq_iff_iff]
    simp only [okC, Bool.or_eq_true, Bool.and_eq_true, decide_eq_true_eq, beq_iff_eq]
    first
    | omega
    | (simp; omega)
theorem isSign_is (b : UInt8) (x : Bool) (h : okC b.toNat = x) (w : World) : Calls Tryz.prog 108 #[.int .u8 (b.toNat : Int)] w fun e w' => e = .returned (.bool x) ∧ w' = w := by
  subst h; exact isSign_any b w
set_option maxHeartbeats 4000000 in
theorem isName_any (s : ByteArray) (hs : s.size ≤ 140737488355328) (w : World) : Calls Tryz.prog 89 #[.string s] w fun e w' => e = .returned (.bool (namedM s)) ∧ w' = w := by
  by_cases h0 : s.size = 0
  · have e0 : (s.size : Int) = 0 := by omega
    have HN : Hid (namedM s = false) := by show _ = _; simp [namedM, h0]
    clear h0
    go_enter Tryz.func89, Tryz.ntmps89
    go_wp2
    go_ret
    exact ⟨by rw [HN.out]; rfl, rfl⟩
  have e0 : ((s.size : Int) == 0) = false := by simp; intro h; apply h0; rw [h]; rfl
  have e0' : ¬ s = ByteArray.empty := fun h => h0 (by rw [h]; rfl)
  by_cases h64 : 64 < s.size
  · have hz : (64 : Int) < (s.size : Int) := by omega
    have HN : Hid (namedM s = false) := by show _ = _; simp [namedM]; omega
    clear h0 h64
    go_enter Tryz.func89, Tryz.ntmps89
    go_wp2
    go_ret
    exact ⟨by rw [HN.out]; rfl, rfl⟩
  have hz : ¬ (64 : Int) < (s.size : Int) := by omega
  by_cases h1 : s.data.toList = [46]
  · have e1 : (s.toList == [46]) = true := by rw [← plit1]; exact str_same h1
    have HN : Hid (namedM s = false) := by show _ = _; simp [namedM, h1]
    clear h0 h64 h1
    go_enter Tryz.func89, Tryz.ntmps89
    go_wp2
    go_ret
    exact ⟨by rw [HN.out]; rfl, rfl⟩
  have e1 : (s.toList == [46]) = false := by rw [← plit1]; exact str_other h1
  by_cases h2 : s.data.toList = [46, 46]
  · have e2 : (s.toList == [46, 46]) = true := by rw [← plit2]; exact str_same h2
    have HN : Hid (namedM s = false) := by show _ = _; simp [namedM, h2]
    clear h0 h64 h1 h2
    go_enter Tryz.func89, Tryz.ntmps89
    go_wp2
    go_ret
    exact ⟨by rw [HN.out]; rfl, rfl⟩
  have e2 : (s.toList == [46, 46]) = false := by rw [← plit2]; exact str_other h2
  have HN : Hid (namedM s = s.data.toList.all (fun c => okC c.toNat)) := by
    show _ = _
    have a : decide (0 < s.size) = true := by simp; omega
    have b : decide (s.size ≤ 64) = true := by simp; omega
    have c : (s.data.toList == [46]) = false := by simpa using h1
    have d : (s.data.toList == [46, 46]) = false := by simpa using h2
    unfold namedM
    rw [a, b, c, d]
    simp
  have hb : s.size ≤ 64 := by omega
  clear h0 h64 h1 h2
  go_enter Tryz.func89, Tryz.ntmps89
  go_wp2
  go_loopw [22] (fun ci wr => wr = w ∧ ∃ i : Nat, i ≤ s.size ∧ ci = .int .i64 (i : Int) ∧ (s.data.toList.take i).all (fun c => okC c.toNat) = true) (fun ci _ => s.size - (intOf ci).toNat)
  case atStart => exact ⟨rfl, 0, by omega, rfl, by simp⟩
  case round =>
    obtain ⟨rfl, i, hi, rfl, hall⟩ := hrel
    by_cases hlt : i < s.size
    · have hat : s.data.toList[i]? = some s[i] := at_list s i hlt
      have htk : s.data.toList.take (i + 1) = s.data.toList.take i ++ [s[i]] := by rw [List.take_add_one, hat]; rfl
      have HALL : Hid (∀ b, okC s[i].toNat = b → (s.data.toList.take (i + 1)).all (fun c => okC c.toNat) = b) := fun b hb => by
        rw [htk, List.all_append, hall]
        simp [hb]
      have HBAD : Hid (okC s[i].toNat = false → namedM s = false) := fun hb => by
        rw [HN.out, List.all_eq_false]
        exact ⟨s[i], List.mem_of_getElem? hat, by simp [hb]⟩
      clear hall htk hat
      have hz0 : (0 : Int) ≤ (i : Int) := by omega
      have hz1 : (i : Int) < (s.size : Int) := by omega
      have hiw : IntKind.i64.wrap ((i : Int) + 1) = (i : Int) + 1 := by rw [IntKind.wrap_i64] <;> omega
      have HI : Hid (i < s.size) := hlt
      rcases hok : okC s[i].toNat with _ | _
      · go_wp2_with fail
        refine (isSign_is _ _ hok _).mono ?_
        rintro e w1 ⟨rfl, rfl⟩
        go_wp2
        go_ret
        exact ⟨by rw [HBAD.out hok]; rfl, rfl⟩
      · go_wp2_with fail
        refine (isSign_is _ _ hok _).mono ?_
        rintro e w1 ⟨rfl, rfl⟩
        go_wp2
        go_roundw
        case rel => exact ⟨trivial, i + 1, HI.out, rfl, HALL.out _ hok⟩
        case measure => (have := HI.out; simp [intOf]; omega)
    · have he : i = s.size := by omega
      have HF : Hid (namedM s = true) := by
        show _ = _
        rw [HN.out, ← hall, he, ← list_len, List.take_length]
      subst he
      clear hall
      go_wp2
      go_ret
      exact ⟨by rw [HF.out]; rfl, rfl⟩
end Go.Proofs.YtlheilkofibogaaGreat
namespace Go.Proofs.YtlheilkofibogaaGreat
open Go.RowKit Go.Maps
set_option linter.unusedVariables false
def ptr (o : Option Nat) : Value := .pointer (o.map fun b => ⟨b, 0, none⟩)
def ptrElem (v : Value) : Option (DataW Unit × List MemPlace) := match v with
  | .pointer (some ⟨b, 0, none⟩) => some (.lit (.int .i64 (b : Int)), [])
  | .pointer none => some (.lit (.int .i64 (-1)), [])
  | _ => none
theorem ptrElem_some (b : Nat) : ptrElem (ptr (some b)) = some (.lit (.int .i64 (b : Int)), []) := rfl
theorem ptrElem_inv {v : Value} {z : DataW Unit × List MemPlace} (h : ptrElem v = some z) : ∃ o : Option Nat, v = ptr o ∧ z = (.lit (.int .i64 (match o with | some b => (b : Int) | none => -1)), []) := by
  unfold ptrElem at h
  split at h
  · rename_i b
    cases h; exact ⟨some b, rfl, rfl⟩
  · cases h; exact ⟨none, rfl, rfl⟩
  · cases h
theorem lawK : Keyed Tryz.prog 9 := string_keyed Tryz.underlying9
theorem zeroP (w : World) : (zeroValue 73).run Tryz.prog w = .ok (.pointer none) w := by kernel_rfl
theorem lit_inj {a b : Int} (h : (DataW.lit (Lit.int .i64 a) : DataW Unit) = .lit (.int .i64 b)) : a = b := by
  injection h with h
  injection h
theorem owns_tight {W : World} {mb n : Nat} {D : DataW Unit} (h : W.ownsMap Tryz.prog 9 ptrElem mb n D) : W.ownsMap Tryz.prog 9 ptrElem mb (Maps.size D) D := by
  obtain ⟨es, clock, hb, F, hs, rfl⟩ := h
  refine ⟨es, clock, hb, F, ?_, rfl⟩
  rw [size_eq, length_read]
  exact Nat.le_refl _
/-- What a directory's map reads as. -/
structure DIs (D : DataW Unit) (k : Nat) (f : ByteArray → Option Nat) : Prop where
  siz : Maps.size D = k
  has : ∀ m : ByteArray, Maps.has D (.string m.data.toList) = (f m).isSome
  at_ : ∀ (m : ByteArray) b, f m = some b → ∀ z, D.atKey (.string m.data.toList) z = .lit (.int .i64 (b : Int))
/-- A map from names to files: how many there are, and which. -/
def MapIs (W : World) (mb k : Nat) (f : ByteArray → Option Nat) : Prop := ∃ D : DataW Unit, W.ownsMap Tryz.prog 9 ptrElem mb k D ∧ DIs D k f
theorem MapIs.to {W W' : World} {mb n : Nat} {f : ByteArray → Option Nat} (h : MapIs W mb n f) (e : W'.heap[mb]? = W.heap[mb]?) : MapIs W' mb n f := by
  obtain ⟨D, ⟨es, clock, hb, hF⟩, hm⟩ := h
  exact ⟨D, ⟨es, clock, e.trans hb, hF⟩, hm⟩
theorem MapIs.obj {W : World} {mb n : Nat} {f : ByteArray → Option Nat} (h : MapIs W mb n f) : ∃ es c, W.heap[mb]? = some (.map es c) := by
  obtain ⟨D, ⟨es, clock, h1, hF⟩, hm⟩ := h
  exact ⟨_, _, h1⟩
theorem MapIs.ne {W : World} {mb n g t : Nat} {L : Array Value} {f : ByteArray → Option Nat} (h : MapIs W mb n f) (hb : W.heap[g]? = some (.cells L t)) : mb ≠ g := fun e => by
  subst e
  obtain ⟨es, c, h1⟩ := h.obj
  have := h1.symm.trans hb
  cases this
theorem MapIs.lt {W : World} {mb n : Nat} {f : ByteArray → Option Nat} (h : MapIs W mb n f) : mb < W.heap.size := by
  obtain ⟨D, h1, hm⟩ := h
  exact h1.lt
theorem MapIs.look {W : World} {mb n : Nat} {f : ByteArray → Option Nat} (h : MapIs W mb n f) {m : ByteArray} (hs : m.size ≤ maxLen) : (Instr.lookup 51 (.map (some mb)) (.string m) false).run Tryz.prog W = .ok (ptr (f m)) W := by
  obtain ⟨D, hD, hm⟩ := h
  have h1 := hm.has m
  have h2 := hm.at_ m
  obtain ⟨v, ps, hrun, hv⟩ := hD.lookup lawK Tryz.underlying51 (zeroP W) (zd := .lit (.int .i64 (-1))) (zp := []) rfl (WideMaps.keyOf_string_mk Tryz.underlying9 hs)
  obtain ⟨o, rfl, ho⟩ := ptrElem_inv hv
  rw [hrun]
  have e : o = f m := by
    have ho1 := congrArg Prod.fst ho
    simp only at ho1
    rcases hf : f m with _ | b
    · rw [hf] at h1
      rw [atKey_of_not_has h1] at ho1
      rcases o with _ | b
      · rfl
      · have : (-1 : Int) = (b : Int) := lit_inj ho1
        omega
    · rw [h2 b hf] at ho1
      rcases o with _ | b'
      · have : (b : Int) = -1 := lit_inj ho1
        omega
      · have h3 : (b : Int) = (b' : Int) := lit_inj ho1
        have : b = b' := by omega
        rw [this]
  rw [e]
def updM (f : ByteArray → Option Nat) (m : ByteArray) (o : Option Nat) : ByteArray → Option Nat := fun x => if x = m then o else f x
theorem key_ne {m x : ByteArray} (h : x ≠ m) : Lit.string x.data.toList ≠ Lit.string m.data.toList := fun e => by
  injection e with e
  exact h (ByteArray.ext (Array.toList_inj.1 e))
theorem turned_only {w w' : World} {b : Nat} (h : w.mapTurned w' b) : Only w w' b := by
  obtain ⟨es, clock, es', clock', hb, rfl⟩ := h
  refine ⟨rfl, rfl, rfl, by simp [ChangeMaps.setBlock], fun k hk => ChangeMaps.heap_setBlock_other hb _ (fun e => hk e)⟩
theorem MapIs.put {W : World} {mb n : Nat} {f : ByteArray → Option Nat} (h : MapIs W mb n f) (hn : n < maxLen) {m : ByteArray} (hs : m.size ≤ maxLen) (b : Nat) : ∃ w', (Instr.mapUpdate 51 (.map (some mb)) (.string m) (ptr (some b))).run Tryz.prog W = .ok () w' ∧ MapIs w' mb (if (f m).isSome then n else n + 1) (updM f m (some b)) ∧ Only W w' mb := by
  obtain ⟨D, hD, hm⟩ := h
  obtain ⟨w', hrun, ho, ht⟩ := hD.store lawK Tryz.underlying51 hn (WideMaps.keyOf_string_mk Tryz.underlying9 hs) (ptrElem_some b)
  have hK : WideAt.IsKeyLit (.string m.data.toList) := trivial
  have hsz := size_put (hD.tidy lawK) (k := .string m.data.toList) (.lit (.int .i64 (b : Int)))
  rw [hm.has, hm.siz] at hsz
  refine ⟨w', hrun, ⟨_, hsz ▸ owns_tight ho, hsz, fun x => ?_, fun x b' hb' z => ?_⟩, turned_only ht⟩
  · unfold updM
    by_cases hx : x = m
    · subst hx
      rw [if_pos rfl]
      exact has_put_same hD.isMap hK _
    · rw [if_neg hx]
      exact (has_put_other (key_ne hx) _).trans (hm.has x)
  · unfold updM at hb'
    by_cases hx : x = m
    · subst hx
      rw [if_pos rfl] at hb'
      cases hb'
      exact atKey_put_same hD.isMap hK _ _
    · rw [if_neg hx] at hb'
      exact (atKey_put_other (key_ne hx) _ _).trans (hm.at_ x b' hb' z)
theorem MapIs.del {W : World} {mb n : Nat} {f : ByteArray → Option Nat} (h : MapIs W mb n f) {m : ByteArray} (hs : m.size ≤ maxLen) (ty : TypeId) : ∃ w', (Builtin.delete_ #[51, 9] ty #[.map (some mb), .string m]).run Tryz.prog W = .ok (.tuple #[]) w' ∧ MapIs w' mb (if (f m).isSome then n - 1 else n) (updM f m none) ∧ Only W w' mb := by
  obtain ⟨D, hD, hm⟩ := h
  obtain ⟨w', hrun, ho, ht⟩ := hD.drop lawK Tryz.underlying51 (WideMaps.keyOf_string_mk Tryz.underlying9 hs) ty
  have hsz := size_del (hD.tidy lawK) (k := .string m.data.toList)
  rw [hm.has, hm.siz] at hsz
  have hsz' : Maps.size (D.del (.string m.data.toList)) = if (f m).isSome then n - 1 else n := by split at hsz <;> split <;> simp_all <;> omega
  refine ⟨w', hrun, ⟨_, hsz' ▸ owns_tight ho, hsz', fun x => ?_, fun x b' hb' z => ?_⟩, turned_only ht⟩
  · unfold updM
    by_cases hx : x = m
    · subst hx
      rw [if_pos rfl]
      exact has_del_same
    · rw [if_neg hx]
      exact (has_del_other (key_ne hx)).trans (hm.has x)
  · unfold updM at hb'
    by_cases hx : x = m
    · subst hx
      rw [if_pos rfl] at hb'
      cases hb'
    · rw [if_neg hx] at hb'
      exact (atKey_del_other (key_ne hx) _).trans (hm.at_ x b' hb' z)
theorem MapIs.made (w : World) : MapIs (w.alloc (.map #[] 0)) w.heap.size 0 (fun _ => none) :=
  ⟨_, World.ownsMap_made _ _ _ _, rfl, fun m => rfl, fun m b hb => by cases hb⟩
theorem MapIs.len {W : World} {mb n : Nat} {f : ByteArray → Option Nat} (h : MapIs W mb n f) (ty : TypeId) : (Builtin.len_ #[51] ty #[.map (some mb)]).run Tryz.prog W = .ok (.int .i64 (n : Int)) W := by
  obtain ⟨D, hD, hm⟩ := h
  rw [← hm.siz]
  exact hD.len Tryz.underlying51 ty
end Go.Proofs.YtlheilkofibogaaGreat
