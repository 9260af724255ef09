import Derived.Test.YtijambehfobopaaGreatDoorWAU
import Derived.Test.YtijambehfobopaaGreatDoorQNw
namespace Go.Proofs.YtijambehfobopaaGreatDoor
open Go.RowKit
set_option linter.unusedVariables false
set_option linter.unusedSimpArgs false
section
variable {ok:Nat → Prop}
set_option maxHeartbeats 1000000 in
set_option maxRecDepth 100000 in
theorem rlen_any (E B:Nat) (v:Value) (N:QM.NL) (hl:N.flatten.length ≤ 1000000) (hn:N.length ≤ 1000000) (w:World) (h:RL ok w v N) :
    Calls Tryz.prog 12 #[rlV E B v] w fun e w'=>e=.returned (.int .i64 (N.flatten.length:Int))∧Below w.heap.size w w':=by
  have HE:Hid (∀ W,Below w.heap.size w W → Calls Tryz.prog 25 #[rlV E B v] W fun e w'=>∃ v',e=.returned v'∧w'.ownsRow W.heap.size 9 1 v' N.flatten.length (strV N.flatten)∧Below W.heap.size W w'):=fun W hW=>elems_any E B v N hl hn W (h.on hW)
  obtain ⟨P,c,rfl⟩:=h.form
  obtain ⟨F,hF⟩:∃ F,N.flatten.length=F:=⟨_,rfl⟩
  rw [hF] at HE ⊢
  clear h hF hl
  go_enter Tryz.func12,Tryz.ntmps12
  go_wp2_with fail
  refine (show Calls _ _ _ _ _ from HE.out _ ?b1).mono ?_
  case b1=>first | exact Below.refl _ _ | exact (Below.refl _ _).alloc (Nat.le_refl _) _
  rintro e w1 ⟨v',rfl,ho,hb⟩
  obtain ⟨P8,k8,hkf⟩:=own_form ho
  subst hkf
  have HB:Hid (Below w.heap.size w w1):=by first | exact hb | exact bel_to ((Below.refl _ w).alloc (Nat.le_refl _) _) hb (Nat.le_refl _)
  clear ho hb
  go_wp2
  go_returns
  exact ⟨rfl,HB.out⟩
set_option maxHeartbeats 1000000 in
set_option maxRecDepth 100000 in
theorem rnew_no (e b:Int) (h:mayB e b=false) (w:World):Calls Tryz.prog 15 #[.int .i64 e,.int .i64 b] w fun r w'=>r=.returned (.tuple #[rlV 0 0 (.slice none 0 0),.int .i64 1])∧Below w.heap.size w w':=by
  by_cases h1:e < 1
  · go_enter Tryz.func15,Tryz.ntmps15
    go_wp2
    go_returns
    exact ⟨rfl,by first | exact Below.refl _ _ | exact (Below.refl _ _).alloc (Nat.le_refl _) _⟩
  · by_cases h2:4096 < e
    · go_enter Tryz.func15,Tryz.ntmps15
      go_wp2
      go_returns
      exact ⟨rfl,by first | exact Below.refl _ _ | exact (Below.refl _ _).alloc (Nat.le_refl _) _⟩
    · by_cases h3:b < 0
      · go_enter Tryz.func15,Tryz.ntmps15
        go_wp2
        go_returns
        exact ⟨rfl,by first | exact Below.refl _ _ | exact (Below.refl _ _).alloc (Nat.le_refl _) _⟩
      · have h4:4096 < b:=by unfold mayB at h; simp at h; omega
        go_enter Tryz.func15,Tryz.ntmps15
        go_wp2
        go_returns
        exact ⟨rfl,by first | exact Below.refl _ _ | exact (Below.refl _ _).alloc (Nat.le_refl _) _⟩
set_option maxHeartbeats 1000000 in
set_option maxRecDepth 100000 in
theorem rnew_yes (E B:Nat) (h:mayB (E:Int) (B:Int)=true) (w:World):Calls Tryz.prog 15 #[.int .i64 (E:Int),.int .i64 (B:Int)] w fun r w'=>r=.returned (.tuple #[rlV E B (.slice none 0 0),.int .i64 0])∧Below w.heap.size w w':=by
  have h1:¬ ((E:Int) < 1)∧¬ (4096 < (E:Int))∧¬ ((B:Int) < 0)∧¬ (4096 < (B:Int)):=by unfold mayB at h; simp at h; omega
  obtain ⟨h1,h2,h3,h4⟩:=h1
  clear h
  go_enter Tryz.func15,Tryz.ntmps15
  go_wp2
  go_returns
  exact ⟨rfl,by first | exact Below.refl _ _ | exact (Below.refl _ _).alloc (Nat.le_refl _) _⟩
end
end Go.Proofs.YtijambehfobopaaGreatDoor
namespace Go.Proofs.YtijambehfobopaaGreatDoor
open Go.RowKit
set_option linter.unusedVariables false
set_option linter.unusedSimpArgs false
section
variable {ok:Nat → Prop}
end
end Go.Proofs.YtijambehfobopaaGreatDoor
