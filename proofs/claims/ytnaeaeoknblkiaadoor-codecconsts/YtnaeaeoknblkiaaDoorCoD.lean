import Derived.Test.YtnaeaeoknblkiaaDoorCoC
import Derived.Test.YtnaeaeoknblkiaaDoorTie
import Derived.Test.YtnaeaeoknblkiaaDoorCards
import Derived.LaidMore
import Derived.Stop.Joined
import Derived.Stop.LaidErr
import Derived.Lib.LaidTab
import Derived.SevenTiedAt
import Derived.OpenShut
namespace Go.Proofs.YtnaeaeoknblkiaaDoor
open Go.RowKit
set_option linter.unusedVariables false
def laidL : List (String × DataW Unit) := [("cistern/codec.layouts", Rows.laid_cistern_codec_layouts)]
theorem laidOut : laidOutB Tryd.prog = true := by kernel_rfl
theorem own : ownKnob Tryd.prog.godebug = none := by kernel_rfl
theorem gLay : Tryd.prog.globalNamed "cistern/codec.layouts" = some 0 := by kernel_rfl
theorem tLay : (Tryd.prog.globals[0]?).map (·.type) = some 36 := by kernel_rfl
theorem cellsL9 : Tryd.prog.cellsOf 36 = 54 := by kernel_rfl
theorem cellsL1 : Tryd.prog.cellsOf 27 = 6 := by kernel_rfl
theorem cellsI : Tryd.prog.cellsOf 3 = 1 := by kernel_rfl
theorem cellsB : Tryd.prog.cellsOf 4 = 1 := by kernel_rfl
theorem cellsS : Tryd.prog.cellsOf 9 = 1 := by kernel_rfl
set_option maxRecDepth 100000 in
theorem door_met (os : Os) (args : Array Value) : laidMetH Tryd.prog laidL ((World.doorLaid Tryd.prog 400 os).forCall (fun _ _ => 0) ⟨#[], args, []⟩).memory :=
  laidMetH_of_parts3 (fuel := 8) (laidMet_of_run' 8 (by kernel_rfl) (by kernel_rfl)) (by kernel_rfl) (by kernel_rfl)
/-- one row of the table, out of its reading. -/
theorem row_of {W : World} {base fuel : Nat} {sp : Nat → Bool} {held : Bool} {enc : TypeId × Value → Unit} {cs : List Value} {x : DataW Unit × List MemPlace} {a b c : Int} {s : List UInt8} {d e : Bool} (hl : cs.length = 6)
    (h : DataW.trod enc Tryd.prog W base sp held fuel 27 cs = some x) (hx : x.1 = .agg [.lit (.int .i64 a), .lit (.int .i64 b), .lit (.string s), .lit (.int .i64 c), .lit (.bool d), .lit (.bool e)]) :
    cs = [.int .i64 a, .int .i64 b, .string ⟨s.toArray⟩, .int .i64 c, .bool d, .bool e] := by
  obtain ⟨xs, k, hk, hxy, _, hxl, hf⟩ := DataW.trod_struct Tryd.underlying27 h
  match xs, hxl, cs, hl with
  | [y0, y1, y2, y3, y4, y5], _, [v0, v1, v2, v3, v4, v5], _ =>
    have g0 := hf 0 _ rfl
    have g1 := hf 1 _ rfl
    have g2 := hf 2 _ rfl
    have g3 := hf 3 _ rfl
    have g4 := hf 4 _ rfl
    have g5 := hf 5 _ rfl
    simp [cellsI, cellsB, cellsS] at g0 g1 g2 g3 g4 g5
    obtain ⟨z0, e0, f0, _⟩ := DataW.trod_int Tryd.underlying3 g0
    obtain ⟨z1, e1, f1, _⟩ := DataW.trod_int Tryd.underlying3 g1
    obtain ⟨z2, e2, f2, _⟩ := DataW.trod_string Tryd.underlying9 g2
    obtain ⟨z3, e3, f3, _⟩ := DataW.trod_int Tryd.underlying3 g3
    obtain ⟨z4, e4, f4⟩ := DataW.trod_bool Tryd.underlying4 g4
    obtain ⟨z5, e5, f5⟩ := DataW.trod_bool Tryd.underlying4 g5
    rw [hxy] at hx
    simp at e0 e1 e2 e3 e4 e5
    subst e0; subst e1; subst e2; subst e3; subst e4; subst e5
    simp [f0, f1, f2, f3, f4, f5] at hx
    obtain ⟨rfl, rfl, rfl, rfl, rfl, rfl⟩ := hx
    rfl
theorem of_laid {W : World} (h : laidMetH Tryd.prog laidL W) : Lay W := by
  rw [MakeChecks.laidMetH_plain _ _ _ (by kernel_rfl)] at h
  unfold laidL at h
  obtain ⟨ps, ⟨g', t', cs, fuel, p, q, hg', ht', hvar, hd, _, _⟩, _⟩ := h
  obtain rfl := Option.some.inj (gLay.symm.trans hg')
  obtain rfl := Option.some.inj (tLay.symm.trans ht')
  obtain ⟨xs, m, hm, hx, hcl, hxl, hel⟩ := DataW.trod_array Tryd.underlying36 hd
  rw [cellsL9] at hcl
  rw [cellsL1] at hel
  have hc : ∀ (l : List Value) (n : Nat), l.drop n = (l.drop n).take 6 ++ l.drop (n + 6) := fun l n => by rw [← List.drop_drop, List.take_append_drop]
  have hlen : ∀ i, i < 9 → (List.take 6 (List.drop (i * 6) cs.toList)).length = 6 := fun i hi => by rw [List.length_take, List.length_drop, hcl]; omega
  match xs, hxl with
  | [y0, y1, y2, y3, y4, y5, y6, y7, y8], _ =>
    have hxx := congrArg Prod.fst hx
    unfold Rows.laid_cistern_codec_layouts at hxx
    simp only [List.map_cons, List.map_nil, DataW.agg.injEq, List.cons.injEq, and_true] at hxx
    obtain ⟨h0, h1, h2, h3, h4, h5, h6, h7, h8⟩ := hxx
    have r0 := row_of (hlen 0 (by omega)) (hel 0 (by omega)) h0.symm
    have r1 := row_of (hlen 1 (by omega)) (hel 1 (by omega)) h1.symm
    have r2 := row_of (hlen 2 (by omega)) (hel 2 (by omega)) h2.symm
    have r3 := row_of (hlen 3 (by omega)) (hel 3 (by omega)) h3.symm
    have r4 := row_of (hlen 4 (by omega)) (hel 4 (by omega)) h4.symm
    have r5 := row_of (hlen 5 (by omega)) (hel 5 (by omega)) h5.symm
    have r6 := row_of (hlen 6 (by omega)) (hel 6 (by omega)) h6.symm
    have r7 := row_of (hlen 7 (by omega)) (hel 7 (by omega)) h7.symm
    have r8 := row_of (hlen 8 (by omega)) (hel 8 (by omega)) h8.symm
    have hcs : cs.toList = Lc.toList := by
      have e0 : cs.toList = cs.toList.drop 0 := rfl
      have e9 : cs.toList.drop 54 = [] := List.drop_eq_nil_of_le (by omega)
      simp only [Nat.reduceMul] at r0 r1 r2 r3 r4 r5 r6 r7 r8
      rw [e0, hc _ 0, hc _ 6, hc _ 12, hc _ 18, hc _ 24, hc _ 30, hc _ 36, hc _ 42, hc _ 48, e9, r0, r1, r2, r3, r4, r5, r6, r7, r8]
      rfl
    intro j v hv
    rw [World.var?_cell gLay hvar, ← Array.getElem?_toList, hcs]
    exact hv
end Go.Proofs.YtnaeaeoknblkiaaDoor
