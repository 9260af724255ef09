import Derived.Test.YtadihhngegimkaaGreatDoorLeaf5
import Derived.Test.YtadihhngegimkaaGreatDoorTie
import Derived.Test.YtadihhngegimkaaGreatDoorCards
import Derived.ProofKit
import Derived.LaidMore
import Derived.OpenShut
import Derived.ShutString
import Derived.SizedLaws
import Derived.Stop.Joined
import Derived.Stop.LaidErr
import Derived.Lib.LaidTab
import Derived.SevenTiedAt
import Derived.Test.YtadihhngegimkaaGreatDoorTwin
import Derived.SliceStrings
import Derived.Carry
import Derived.ChangeArms
namespace Go.Proofs.YtadihhngegimkaaGreatDoor
open Go.RowKit Vi
set_option linter.unusedVariables false

def laidL : List (String × DataW Unit) := [("math/bits.deBruijn32tab", Rows.laid_math_bits_deBruijn32tab), ("math/bits.deBruijn64tab", Rows.laid_math_bits_deBruijn64tab), ("internal/strconv.uint64pow10", Rows.laid_internal_strconv_uint64pow10), ("strconv.ErrRange", Rows.laid_strconv_ErrRange), ("strconv.ErrSyntax", Rows.laid_strconv_ErrSyntax), ("cistern/listpack.widths", Rows.laid_cistern_listpack_widths)]
theorem own : ownKnob Tryz.prog.godebug = none := by kernel_rfl
theorem gPow : Tryz.prog.globalNamed "internal/strconv.uint64pow10" = some 2 := by kernel_rfl
theorem gSyn : Tryz.prog.globalNamed "strconv.ErrSyntax" = some 3 := by kernel_rfl
theorem gRng : Tryz.prog.globalNamed "strconv.ErrRange" = some 4 := by kernel_rfl
theorem gWid : Tryz.prog.globalNamed "cistern/listpack.widths" = some 0 := by kernel_rfl
theorem tPow : (Tryz.prog.globals[2]?).map (·.type) = some 138 := by kernel_rfl
theorem tSyn : (Tryz.prog.globals[3]?).map (·.type) = some 90 := by kernel_rfl
theorem tRng : (Tryz.prog.globals[4]?).map (·.type) = some 90 := by kernel_rfl
theorem tWid : (Tryz.prog.globals[0]?).map (·.type) = some 106 := by kernel_rfl
theorem cellsE : Tryz.prog.cellsOf 148 = 1 := by kernel_rfl
theorem cells9 : Tryz.prog.cellsOf 9 = 1 := by kernel_rfl
theorem cells3 : Tryz.prog.cellsOf 3 = 1 := by kernel_rfl
theorem cellsU : Tryz.prog.cellsOf 116 = 1 := by kernel_rfl
theorem cellsT : Tryz.prog.cellsOf 138 = 20 := by kernel_rfl
theorem cellsW : Tryz.prog.cellsOf 106 = 4 := by kernel_rfl
theorem star : "*" ++ "errors.errorString" = "*errors.errorString" := by decide
theorem rowE (u : TypeId) (h : Tryz.prog.typeName? 3 u = some "*errors.errorString") : u = 146 :=
  typeName_ptr_named (nm := "errors.errorString") (by rw [star]; kernel_rfl) (by kernel_rfl) (by decide) u (by rw [star]; exact h)
theorem tabD : (Rows.laid_internal_strconv_uint64pow10 : DataW Unit) = Lib.tabData .u64 Lib.pow10Tab := by rfl
theorem tabW : (Rows.laid_cistern_listpack_widths : DataW Unit) = Lib.tabData .i64 [2, 3, 4, 8] := by rfl

set_option maxRecDepth 100000 in
theorem door_met (os : Os) (args : Array Value) : laidMetH Tryz.prog laidL ((World.doorLaid Tryz.prog 400 os).forCall (fun _ _ => 0) ⟨#[], args, []⟩).memory :=
  laidMetH_of_parts3 (fuel := 8) (laidMet_of_run' 8 (by kernel_rfl) (by kernel_rfl)) (by kernel_rfl) (by kernel_rfl)

theorem wid_of {W : World} (h : Lib.TabIs Tryz.prog W "cistern/listpack.widths" .i64 [2, 3, 4, 8]) : Wid W := by
  unfold Lib.TabIs World.var? at h
  rw [gWid] at h
  simp only [Option.bind_some] at h
  split at h
  · rename_i cs t fr hh
    injection h with h
    subst h
    constructor <;> (rw [cell_of_row _ _ _ _ _ _ hh]; rfl)
  · cases h

theorem of_laid {W : World} (h : laidMetH Tryz.prog laidL W) : Lay W := by
  rw [MakeChecks.laidMetH_plain _ _ _ (by kernel_rfl)] at h
  have h2 := laidMet.tail (laidMet.tail h)
  have h3 := laidMet.tail h2
  have h4 := laidMet.tail h3
  have h5 := laidMet.tail h4
  rw [tabD] at h2
  rw [tabW] at h5
  refine ⟨⟨Lib.tabIs_of_head gPow tPow Tryz.underlying138 Tryz.underlying116 cellsU cellsT h2, ?_, ?_⟩, wid_of (Lib.tabIs_of_head gWid tWid Tryz.underlying106 Tryz.underlying3 cells3 cellsW h5)⟩
  · obtain ⟨a0, s0, hv0, -, -, -⟩ := laid_sentinel h4 gSyn tSyn Tryz.underlying90 rowE Tryz.underlying146 Tryz.underlying148 rfl rfl Tryz.underlying9 cellsE cells9
    exact ⟨_, _, hv0⟩
  · obtain ⟨a0, s0, hv0, -, -, -⟩ := laid_sentinel h3 gRng tRng Tryz.underlying90 rowE Tryz.underlying146 Tryz.underlying148 rfl rfl Tryz.underlying9 cellsE cells9
    exact ⟨_, _, hv0⟩
end Go.Proofs.YtadihhngegimkaaGreatDoor
namespace Go.Proofs.YtadihhngegimkaaGreatDoor
open Go.ChangeShapes Go.WideShapes Go.RowKit
set_option linter.unusedVariables false
theorem bytes9 : Tryz.prog.bytesOf 9 = 16 := by kernel_rfl
theorem laidOut : laidOutB Tryz.prog = true := by kernel_rfl
theorem weights_strs {H : Type} (P : Program) (e : TypeId) (l : List ByteArray) (x : ByteArray) (hx : x ∈ l) : x.data.toList.length ∈ DataW.weightsAll P e (strs (H := H) l) := by
  induction l with
  | nil => cases hx
  | cons y l ih =>
    simp only [strs, List.map_cons, DataW.weightsAll, DataW.weights, List.mem_append, List.mem_singleton]
    rcases List.mem_cons.1 hx with rfl | hx
    · exact Or.inl rfl
    · exact Or.inr (ih hx)
/-- a row of texts, as it is read. -/
theorem open_row {H : Type} {enc : TypeId × Value → H} {W : World} {fuel : Nat} {v : Value} {y : DataW H × List MemPlace} {ts : List TypeId} {ds : List (DataW H)} {j : Nat}
    (h : DataW.trod enc Tryz.prog W 0 (fun _ => true) true fuel 35 [v] = some y)
    (hsz : (DataW.weightsEach Tryz.prog ts ds).all (· ≤ reachBytes) = true) (ht : ts[j]? = some 35) (hd : ds[j]? = some y.1) :
    ∃ vs : List ByteArray, SRow W v vs ∧ (∀ c, v = .slice none 0 c → c = 0) ∧ vs.length * 16 ≤ 140737488351232 ∧ ∀ x ∈ vs, x.size ≤ 281474976710656 := by
  rcases open_strings Tryz.underlying35 Tryz.underlying9 cells9 h with ⟨hcs, hx⟩ | ⟨a, len, cap, ss, hcs, _, hl, hm, hz, hx, hcell, hws⟩
  · have e : v = .slice none 0 0 := by simpa using hcs
    subst e
    exact ⟨[], Or.inl ⟨rfl, none, 0, rfl⟩, fun c h => nil_cap h, by simp, by simp⟩
  · have e : v = .slice (some a) len cap := by simpa using hcs
    subst e
    simp only [if_true] at hz
    rw [hx] at hd
    have hr : len * 16 ≤ 140737488351232 := by
      have := sized_slice hsz ht hd Tryz.underlying35
      rw [bytes9] at this
      simp only [strs, List.length_map, List.length_take, List.length_drop, reachBytes] at this
      omega
    have hstr : ∀ x ∈ ss.take len, x.size ≤ 281474976710656 := fun x hx' => by
      have hmem : x.data.toList.length ∈ DataW.weightsEach Tryz.prog ts ds := by
        refine DataW.weights_mem_each ht hd _ ?_
        simp only [DataW.weights, Tryz.underlying35, List.mem_cons, List.mem_append]
        exact Or.inr (Or.inl (weights_strs _ _ _ x hx'))
      have := List.all_eq_true.1 hsz _ hmem
      rw [list_len] at this
      have h9 : x.size ≤ reachBytes := of_decide_eq_true this
      have h10 : reachBytes = 140737488351232 := rfl
      omega
    refine ⟨ss.take len, ?_, (fun c h => by cases h), (by rw [List.length_take]; omega), hstr⟩
    have hlen : (ss.take len).length = len := by rw [List.length_take]; omega
    by_cases h0 : len = 0
    · subst h0
      exact Or.inl ⟨by simp, some a, cap, rfl⟩
    · obtain ⟨b, off, spot⟩ := a
      have hspot : spot = none := by simpa [Addr.add] using World.cell?_spot (hcell 0 (by omega))
      subst hspot
      refine Or.inr ⟨b, off, cap, by rw [hlen], fun j hj => ?_⟩
      have := hcell j (by omega)
      rw [Lib.add_plain] at this
      rw [this, List.getElem_take, List.getD_eq_getElem?_getD, List.getElem?_eq_getElem (by omega)]
      rfl
end Go.Proofs.YtadihhngegimkaaGreatDoor
namespace Go.Proofs.YtadihhngegimkaaGreatDoor
open Go.ChangeShapes Go.WideShapes Go.RowKit
set_option linter.unusedVariables false
theorem cells4b : Tryz.prog.cellsOf 4 = 1 := by kernel_rfl
theorem cellsAsk : Tryz.prog.cellsOf 23 = 5 := by kernel_rfl
set_option maxRecDepth 100000 in
theorem open_ask {H : Type} {enc : TypeId × Value → H} {W : World} {fuel : Nat} {cs : List Value} {x : DataW H × List MemPlace} {ts : List TypeId} {ds : List (DataW H)} {j : Nat} (hc : cs.length = 5)
    (h : DataW.trod enc Tryz.prog W 0 (fun _ => true) true fuel 23 cs = some x)
    (hsz : (DataW.weightsEach Tryz.prog ts ds).all (· ≤ reachBytes) = true) (ht : ts[j]? = some 23) (hd : ds[j]? = some x.1) :
    ∃ (I N S : Int) (V : ByteArray) (b : Bool), cs = [.int .i64 I, .int .i64 N, .int .i64 S, .string V, .bool b] ∧ (-9223372036854775808 ≤ I ∧ I ≤ 9223372036854775807) ∧ (-9223372036854775808 ≤ N ∧ N ≤ 9223372036854775807) ∧ (-9223372036854775808 ≤ S ∧ S ≤ 9223372036854775807) ∧ V.size ≤ 140737488351232 := by
  obtain ⟨xs, k, hk, hxy, _, hxl, hf⟩ := DataW.trod_struct Tryz.underlying23 h
  match xs, hxl, cs, hc with
  | [y0, y1, y2, y3, y4], _, [v0, v1, v2, v3, v4], _ =>
    have g0 := hf 0 _ rfl
    have g1 := hf 1 _ rfl
    have g2 := hf 2 _ rfl
    have g3 := hf 3 _ rfl
    have g4 := hf 4 _ rfl
    simp [cells3, cells9, cells4b] at g0 g1 g2 g3 g4
    obtain ⟨z0, e0, _, hw0⟩ := DataW.trod_int Tryz.underlying3 g0
    obtain ⟨z1, e1, _, hw1⟩ := DataW.trod_int Tryz.underlying3 g1
    obtain ⟨z2, e2, _, hw2⟩ := DataW.trod_int Tryz.underlying3 g2
    obtain ⟨z3, e3, hy3, _⟩ := DataW.trod_string Tryz.underlying9 g3
    obtain ⟨z4, e4, _⟩ := DataW.trod_bool Tryz.underlying4 g4
    simp at e0 e1 e2 e3 e4
    simp [Lit.wf, IntKind.min, IntKind.max, IntKind.signed, IntKind.bits] at hw0 hw1 hw2
    have hmem : z3.data.toList.length ∈ DataW.weightsEach Tryz.prog ts ds := by
      refine DataW.weights_mem_each ht hd _ ?_
      rw [hxy]
      simp only [DataW.weights, Tryz.underlying23]
      refine DataW.weights_mem_each (j := 3) (t := 9) rfl (show _ = some y3.1 from rfl) _ ?_
      rw [hy3]
      simp [DataW.weights]
    have h9 := List.all_eq_true.1 hsz _ hmem
    rw [list_len] at h9
    have h9 : z3.size ≤ reachBytes := of_decide_eq_true h9
    have h10 : reachBytes = 140737488351232 := rfl
    subst e0; subst e1; subst e2; subst e3; subst e4
    exact ⟨z0, z1, z2, z3, z4, rfl, ⟨by omega, by omega⟩, ⟨by omega, by omega⟩, ⟨by omega, by omega⟩, by omega⟩
end Go.Proofs.YtadihhngegimkaaGreatDoor
