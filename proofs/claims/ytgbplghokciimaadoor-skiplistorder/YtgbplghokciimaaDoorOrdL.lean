import Derived.Test.YtgbplghokciimaaDoorOrdL1
import Derived.Test.YtgbplghokciimaaDoorOrdL2
namespace Go.Proofs.YtgbplghokciimaaDoor
open Go.RowKit I
set_option linter.unusedVariables false
theorem SkiplistOrder_walk (seed : Int) (ad : Option Addr) (len cap g off : Nat) (had : len ≠ 0 → ad = some ⟨g, off, none⟩) (hlen : len ≤ 9223372036854775807) (w : World) (hops : ∀ i, i < len → ∃ o, OpAt w g off i o) (hT : Tab w) : Calls Tryd.prog 3 #[.agg #[.int .i64 seed, .slice ad len cap]] w fun e w' => e = .returned (.bool true) ∧ Below w.heap.size w w' := by
  rcases Nat.lt_or_ge 200 len with h | h
  · exact SkiplistOrder_walk2 seed ad len cap g off h had hlen w hops hT
  · exact SkiplistOrder_walk1 seed ad len cap g off h had hlen w hops hT
end Go.Proofs.YtgbplghokciimaaDoor
