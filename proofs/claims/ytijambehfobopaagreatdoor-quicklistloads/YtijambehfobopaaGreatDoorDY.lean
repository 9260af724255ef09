import Derived.Test.YtijambehfobopaaGreatDoorDH
import Derived.Deep.RegionHeld3
namespace Go.Proofs.YtijambehfobopaaGreatDoor
open Go.RowKit
set_option linter.unusedVariables false
set_option linter.unusedSimpArgs false
theorem own_addr {w:World} {base n T:Nat} {v:Value} {xs:List Value} (h:w.ownsRow base T 1 v n xs) (hn:0 < n):∃ g cap cur,v=.slice (some ⟨g,0,none⟩) n cap∧base ≤ g∧w.heap[g]?=some (.cells cur T)∧∀ j u,xs[j]?=some u → w.cell? ⟨g,j,none⟩=some u:=by
  rcases h.2 with ⟨_,e⟩ | ⟨g,cap,cur,rfl,hb,hg,_⟩
  · omega
  · refine ⟨g,cap,cur,rfl,hb,hg,fun j u hu=>?_⟩
    have:=World.ownsRow.cells h (g:=g) rfl j u hu
    rw [Lib.add_plain] at this
    simpa using this
section
variable {ok:Nat → Prop}
end
end Go.Proofs.YtijambehfobopaaGreatDoor
