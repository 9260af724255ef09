import Derived.Test.YtijambehfobopaaGreatDoorWAV
import Derived.Test.YtijambehfobopaaGreatDoorWAN
import Derived.Test.YtijambehfobopaaGreatDoorDH
import Derived.Deep.RegionHeld3
import Derived.Test.YtijambehfobopaaGreatDoorWAY
import Derived.Test.YtijambehfobopaaGreatDoorWAZ
import Derived.Test.YtijambehfobopaaGreatDoorWAX
import Derived.Test.YtijambehfobopaaGreatDoorDY
import Derived.Test.YtijambehfobopaaGreatDoorWAS
import Derived.Test.YtijambehfobopaaGreatDoorDL
import Derived.Test.YtijambehfobopaaGreatDoorWBC
namespace Go.Proofs.YtijambehfobopaaGreatDoor
open Go.RowKit
set_option linter.unusedVariables false
set_option linter.unusedSimpArgs false
section
variable {ok:Nat → Prop}
theorem DRow.srow {w:World} {v:Value} {x:List ByteArray} (h:DRow ok w v (strV x)):SRow w v x:=by
  rcases h with ⟨rfl,h0⟩ | ⟨g,o,c,h1,h2,h3,h4,h5⟩
  · exact Or.inl ⟨by simpa [strV] using h0,_,_,rfl⟩
  · refine Or.inr ⟨g,o,c,by rw [h1]; simp,fun j hj=>h5 j _ ?_⟩
    simp [strV,hj]
def pkV (N:QM.NL):List Value:=N.map (fun x=>Value.string (packN x))
end
end Go.Proofs.YtijambehfobopaaGreatDoor
namespace Go.Proofs.YtijambehfobopaaGreatDoor
open Go.RowKit
set_option linter.unusedVariables false
set_option linter.unusedSimpArgs false
section
variable {ok:Nat → Prop}
end
end Go.Proofs.YtijambehfobopaaGreatDoor
namespace Go.Proofs.YtijambehfobopaaGreatDoor
open Go.RowKit
set_option linter.unusedVariables false
set_option linter.unusedSimpArgs false
section
variable {ok:Nat → Prop}
end
end Go.Proofs.YtijambehfobopaaGreatDoor
namespace Go.Proofs.YtijambehfobopaaGreatDoor
open Go.RowKit
set_option linter.unusedVariables false
set_option linter.unusedSimpArgs false
section
variable {ok:Nat → Prop}
end
end Go.Proofs.YtijambehfobopaaGreatDoor
namespace Go.Proofs.YtijambehfobopaaGreatDoor
open Go.RowKit
set_option linter.unusedVariables false
set_option linter.unusedSimpArgs false
section
variable {ok:Nat → Prop}
end
end Go.Proofs.YtijambehfobopaaGreatDoor
namespace Go.Proofs.YtijambehfobopaaGreatDoor
open Go.RowKit
set_option linter.unusedVariables false
set_option linter.unusedSimpArgs false
section
variable {ok:Nat → Prop}
end
end Go.Proofs.YtijambehfobopaaGreatDoor
namespace Go.Proofs.YtijambehfobopaaGreatDoor
open Go.RowKit
set_option linter.unusedVariables false
set_option linter.unusedSimpArgs false
def okP (x g r:Nat) (nv:Value) (k:Nat):Prop:=k ≠ g∧k ≠ r∧nv.ownBlock ≠ some k∧k ≠ x
def Both (x:Nat) (w w':World) (b0 g r c:Nat) (rest:List Value) (nv:Value) (E B:Nat) (N':QM.NL) (dv':Value):Prop:=∃ nv',LS w' b0 g r c rest nv' E B (nds B N')∧Fr w w' (fun k=>k=g ∨ k=r ∨ nv.ownBlock=some k)∧(∀ Y,nv'.ownBlock=some Y → nv.ownBlock=some Y ∨ w.heap.size ≤ Y)∧RL (okP x g r nv') w' dv' N'
section
variable {x b0 g r c:Nat} {rest:List Value} {nv:Value} {E B:Nat} {N:QM.NL}
set_option maxHeartbeats 1000000 in
theorem num_any (v:Int) (w:World):Calls Tryz.prog 7 #[.int .i64 v] w fun e w'=>e=.returned (.int .i64 v)∧w'=w:=by
  go_enter Tryz.func7,Tryz.ntmps7
  go_wp2
  go_returns
  exact ⟨rfl,rfl⟩
end
end Go.Proofs.YtijambehfobopaaGreatDoor
