import Derived.Test.YtjnbjfjoejfmpaaGreatDoorWAR
import Derived.Test.YtjnbjfjoejfmpaaGreatDoorQNw
namespace Go.Proofs.YtjnbjfjoejfmpaaGreatDoor
open Go.RowKit
set_option linter.unusedVariables false
set_option linter.unusedSimpArgs false
section
variable {ok:Nat → Prop}
set_option maxHeartbeats 1000000 in
set_option maxRecDepth 100000 in
theorem rlen_any (E B:Nat) (v:Value) (N:QM.NL) (hl:N.flatten.length ≤ 1000000) (hn:N.length ≤ 1000000) (w:World) (h:RL ok w v N) :
    Calls Tryz.prog 16 #[rlV E B v] w fun e w'=>e=.returned (.int .i64 (N.flatten.length:Int))∧Below w.heap.size w w':=by
  have HE:Hid (∀ W,Below w.heap.size w W → Calls Tryz.prog 30 #[rlV E B v] W fun e w'=>∃ v',e=.returned v'∧w'.ownsRow W.heap.size 9 1 v' N.flatten.length (strV N.flatten)∧Below W.heap.size W w'):=fun W hW=>elems_any E B v N hl hn W (h.on hW)
  obtain ⟨P,c,rfl⟩:=h.form
  obtain ⟨F,hF⟩:∃ F,N.flatten.length=F:=⟨_,rfl⟩
  rw [hF] at HE ⊢
  clear h hF hl
  go_enter Tryz.func16,Tryz.ntmps16
  go_wp2_with fail
  refine (show Calls _ _ _ _ _ from HE.out _ ?b1).mono ?_
  case b1=>first | exact Below.refl _ _ | exact (Below.refl _ _).alloc (Nat.le_refl _) _
  rintro e w1 ⟨v',rfl,ho,hb⟩
  obtain ⟨P8,k8,hkf⟩:=own_form ho
  subst hkf
  have HB:Hid (Below w.heap.size w w1):=by first | exact hb | exact bel_to ((Below.refl _ w).alloc (Nat.le_refl _) _) hb (Nat.le_refl _)
  clear ho hb
  go_wp2
  go_returns
  exact ⟨rfl,HB.out⟩
set_option maxHeartbeats 1000000 in
set_option maxRecDepth 100000 in
theorem large_any (E B:Nat) (P:Option Addr) (n c:Nat) (s:ByteArray) (w:World) :
    Calls Tryz.prog 74 #[rlV E B (.slice P n c),.string s] w fun e w'=>e=.returned (.bool (QM.big B s))∧Below w.heap.size w w':=by
  have HE:Hid (QM.big B s=decide (B < s.size)):=rfl
  go_enter Tryz.func74,Tryz.ntmps74
  go_wp2
  go_returns
  exact ⟨by rw [HE.out]; rfl,by first | exact Below.refl _ _ | exact (Below.refl _ _).alloc (Nat.le_refl _) _⟩
set_option maxHeartbeats 1000000 in
set_option maxRecDepth 100000 in
theorem may_any (E B:Nat) (v:Value) (N:QM.NL) (s:ByteArray) (one:Int) (h1:0 ≤ one∧one ≤ 1) (hl:N.flatten.length ≤ 1000) (hn:N.length ≤ 1000) (w:World) (h:RL ok w v N) :
    Calls Tryz.prog 73 #[rlV E B v,.string s,.int .i64 one] w fun e w'=>e=.returned (.int .i64 (if 524288 < s.size then 2 else 0))∧Below w.heap.size w w':=by
  have HE:Hid (∀ W,Below w.heap.size w W → Calls Tryz.prog 16 #[rlV E B v] W fun e w'=>e=.returned (.int .i64 (N.flatten.length:Int))∧Below W.heap.size W w'):=fun W hW=>rlen_any E B v N (by omega) (by omega) W (h.on hW)
  obtain ⟨P,c,rfl⟩:=h.form
  obtain ⟨F,hF⟩:∃ F,N.flatten.length=F:=⟨_,rfl⟩
  rw [hF] at HE hl
  have hw1:IntKind.i64.wrap ((F:Int) + one)=(F:Int) + one:=by rw [IntKind.wrap_i64] <;> omega
  have hw2:¬ ((1048576:Int) < (F:Int) + one):=by omega
  clear h hF
  by_cases hs:524288 < s.size
  · have hs1:(524288:Int) < (s.size:Int):=by omega
    have HI:Hid ((if 524288 < s.size then (2:Int) else 0)=2):=if_pos hs
    go_enter Tryz.func73,Tryz.ntmps73
    go_wp2
    go_returns
    exact ⟨by first | rfl | (rw [HI.out]; rfl),by first | exact Below.refl _ _ | exact (Below.refl _ _).alloc (Nat.le_refl _) _⟩
  · have hs1:¬ ((524288:Int) < (s.size:Int)):=by omega
    have HI:Hid ((if 524288 < s.size then (2:Int) else 0)=0):=if_neg hs
    go_enter Tryz.func73,Tryz.ntmps73
    go_wp2_with fail
    refine (show Calls _ _ _ _ _ from HE.out _ ?b1).mono ?_
    case b1=>first | exact Below.refl _ _ | exact (Below.refl _ _).alloc (Nat.le_refl _) _
    rintro e w1 ⟨rfl,hb⟩
    have HB:Hid (Below w.heap.size w w1):=by first | exact hb | exact bel_to ((Below.refl _ w).alloc (Nat.le_refl _) _) hb (Nat.le_refl _)
    clear hb
    go_wp2
    go_returns
    exact ⟨by first | rfl | (rw [HI.out]; rfl),HB.out⟩
set_option maxHeartbeats 1000000 in
set_option maxRecDepth 100000 in
theorem rnew_yes (E B:Nat) (h:mayB (E:Int) (B:Int)=true) (w:World):Calls Tryz.prog 20 #[.int .i64 (E:Int),.int .i64 (B:Int)] w fun r w'=>r=.returned (.tuple #[rlV E B (.slice none 0 0),.int .i64 0])∧Below w.heap.size w w':=by
  have h1:¬ ((E:Int) < 1)∧¬ (4096 < (E:Int))∧¬ ((B:Int) < 0)∧¬ (4096 < (B:Int)):=by unfold mayB at h; simp at h; omega
  obtain ⟨h1,h2,h3,h4⟩:=h1
  clear h
  go_enter Tryz.func20,Tryz.ntmps20
  go_wp2
  go_returns
  exact ⟨rfl,by first | exact Below.refl _ _ | exact (Below.refl _ _).alloc (Nat.le_refl _) _⟩
set_option maxHeartbeats 2000000 in
set_option maxRecDepth 100000 in
theorem rat_no (E B:Nat) (v:Value) (N:QM.NL) (i:Int) (hi:¬ (0 ≤ i∧i < (N.flatten.length:Int))) (hl:N.flatten.length ≤ 1000) (hn:N.length ≤ 1000) (w:World) (h:RL ok w v N) :
    Calls Tryz.prog 43 #[rlV E B v,.int .i64 i] w fun e w'=>e=.returned (.tuple #[.string ⟨#[]⟩,.bool false])∧Below w.heap.size w w':=by
  have HE:Hid (∀ W,Below w.heap.size w W → Calls Tryz.prog 30 #[rlV E B v] W fun e w'=>∃ v',e=.returned v'∧w'.ownsRow W.heap.size 9 1 v' N.flatten.length (strV N.flatten)∧Below W.heap.size W w'):=fun W hW=>elems_any E B v N (by omega) (by omega) W (h.on hW)
  obtain ⟨P,c,rfl⟩:=h.form
  generalize N.flatten=FL at *
  clear h
  by_cases hi2:i < 0
  · clear hi
    go_enter Tryz.func43,Tryz.ntmps43
    go_wp2_with fail
    refine (show Calls _ _ _ _ _ from HE.out _ ?b1).mono ?_
    case b1=>first | exact Below.refl _ _ | exact (Below.refl _ _).alloc (Nat.le_refl _) _
    rintro e w1 ⟨v',rfl,ho,hb⟩
    obtain ⟨P8,k8,hkf⟩:=own_form ho
    subst hkf
    have HB:Hid (Below w.heap.size w w1):=by first | exact hb | exact bel_to ((Below.refl _ w).alloc (Nat.le_refl _) _) hb (Nat.le_refl _)
    clear ho hb
    go_wp2
    go_returns
    exact ⟨rfl,HB.out⟩
  · have hi3:(FL.length:Int) ≤ i:=by omega
    clear hi
    go_enter Tryz.func43,Tryz.ntmps43
    go_wp2_with fail
    refine (show Calls _ _ _ _ _ from HE.out _ ?b1).mono ?_
    case b1=>first | exact Below.refl _ _ | exact (Below.refl _ _).alloc (Nat.le_refl _) _
    rintro e w1 ⟨v',rfl,ho,hb⟩
    obtain ⟨P8,k8,hkf⟩:=own_form ho
    subst hkf
    have HB:Hid (Below w.heap.size w w1):=by first | exact hb | exact bel_to ((Below.refl _ w).alloc (Nat.le_refl _) _) hb (Nat.le_refl _)
    clear ho hb
    go_wp2
    go_returns
    exact ⟨rfl,HB.out⟩
end
end Go.Proofs.YtjnbjfjoejfmpaaGreatDoor
namespace Go.Proofs.YtjnbjfjoejfmpaaGreatDoor
open Go.RowKit
set_option linter.unusedVariables false
set_option linter.unusedSimpArgs false
section
variable {ok:Nat → Prop}
end
end Go.Proofs.YtjnbjfjoejfmpaaGreatDoor
