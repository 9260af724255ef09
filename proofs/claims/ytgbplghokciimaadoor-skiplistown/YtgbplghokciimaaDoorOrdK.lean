import Derived.Test.YtgbplghokciimaaDoorIB
import Derived.Test.YtgbplghokciimaaDoorOpnC
import Derived.Test.YtgbplghokciimaaDoorBA
import Derived.Test.YtgbplghokciimaaDoorIS
namespace Go.Proofs.YtgbplghokciimaaDoor
open Go.RowKit I
set_option linter.unusedVariables false
theorem OpAt.c17 {W : World} {g off i : Nat} {o : OpD} (h : OpAt W g off i o) : W.cell? ⟨g, off + i * 17, none⟩ = some (.int .i64 o.k) ∧ W.cell? ⟨g, off + i * 17 + 1, none⟩ = some (.int .i64 o.a) ∧ W.cell? ⟨g, off + i * 17 + 2, none⟩ = some (.int .i64 o.b) ∧ W.cell? ⟨g, off + i * 17 + 3, none⟩ = some (.string o.t) ∧ W.cell? ⟨g, off + i * 17 + 4, none⟩ = some (.bool o.bk) ∧ W.cell? ⟨g, off + i * 17 + 5, none⟩ = some (.int .i64 o.lo.1) ∧ W.cell? ⟨g, off + i * 17 + 6, none⟩ = some (.int .i64 o.lo.2.1) ∧ W.cell? ⟨g, off + i * 17 + 7, none⟩ = some (.bool o.lo.2.2) ∧ W.cell? ⟨g, off + i * 17 + 8, none⟩ = some (.int .i64 o.hi.1) ∧ W.cell? ⟨g, off + i * 17 + 9, none⟩ = some (.int .i64 o.hi.2.1) ∧ W.cell? ⟨g, off + i * 17 + 10, none⟩ = some (.bool o.hi.2.2) ∧ W.cell? ⟨g, off + i * 17 + 11, none⟩ = some (.string o.fr.1) ∧ W.cell? ⟨g, off + i * 17 + 12, none⟩ = some (.int .i64 o.fr.2.1) ∧ W.cell? ⟨g, off + i * 17 + 13, none⟩ = some (.bool o.fr.2.2) ∧ W.cell? ⟨g, off + i * 17 + 14, none⟩ = some (.string o.to.1) ∧ W.cell? ⟨g, off + i * 17 + 15, none⟩ = some (.int .i64 o.to.2.1) ∧ W.cell? ⟨g, off + i * 17 + 16, none⟩ = some (.bool o.to.2.2) :=
  ⟨h.cells 0 _ rfl, h.cells 1 _ rfl, h.cells 2 _ rfl, h.cells 3 _ rfl, h.cells 4 _ rfl, h.cells 5 _ rfl, h.cells 6 _ rfl, h.cells 7 _ rfl, h.cells 8 _ rfl, h.cells 9 _ rfl, h.cells 10 _ rfl, h.cells 11 _ rfl, h.cells 12 _ rfl, h.cells 13 _ rfl, h.cells 14 _ rfl, h.cells 15 _ rfl, h.cells 16 _ rfl⟩
abbrev opA (o : OpD) : Array Value := #[.int .i64 o.k, .int .i64 o.a, .int .i64 o.b, .string o.t, .bool o.bk, .int .i64 o.lo.1, .int .i64 o.lo.2.1, .bool o.lo.2.2, .int .i64 o.hi.1, .int .i64 o.hi.2.1, .bool o.hi.2.2, .string o.fr.1, .int .i64 o.fr.2.1, .bool o.fr.2.2, .string o.to.1, .int .i64 o.to.2.1, .bool o.to.2.2]
end Go.Proofs.YtgbplghokciimaaDoor
