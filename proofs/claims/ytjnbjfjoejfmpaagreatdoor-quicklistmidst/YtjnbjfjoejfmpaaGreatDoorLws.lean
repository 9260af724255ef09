import Derived.Test.YtjnbjfjoejfmpaaGreatDoorPlN
import Derived.Test.YtjnbjfjoejfmpaaGreatDoorPly
namespace Go.Proofs.YtjnbjfjoejfmpaaGreatDoor
open Go.RowKit
set_option linter.unusedVariables false
theorem play_any (e b:Int) (ad:Option Addr) (len cap G off:Nat) (klo khi:Int) (had:len ≠ 0 → ad=some ⟨G,off,none⟩) (hlen:len ≤ 9223372036854775807) (w:World) (hops:∀ i,i < len → ∃ o,OpAt w G off i o) (hw:Lay w):Calls Tryz.prog 18 #[.agg #[.int .i64 e,.int .i64 b,.slice ad len cap],.int .i64 klo,.int .i64 khi] w fun r w'=>r=.returned (.bool true)∧Below w.heap.size w w':=by
  cases hm:mayB e b with
  | false=>exact play_no e b hm ad len cap klo khi hlen w hw
  | true =>
    have h:=hm
    unfold mayB at h; simp at h
    obtain ⟨E,rfl⟩:∃ E:Nat,e=(E:Int):=⟨e.toNat,by omega⟩
    obtain ⟨B,rfl⟩:∃ B:Nat,b=(B:Int):=⟨b.toNat,by omega⟩
    exact play_yes E B hm ad len cap G off klo khi had hlen w hops hw
set_option maxHeartbeats 1000000 in
set_option maxRecDepth 100000 in
theorem QuicklistEnds_walk (e b:Int) (ad:Option Addr) (len cap g off:Nat) (had:len ≠ 0 → ad=some ⟨g,off,none⟩) (hlen:len ≤ 9223372036854775807) (w:World) (hops:∀ i,i < len → ∃ o,OpAt w g off i o) (hw:Lay w):Calls Tryz.prog 4 #[.agg #[.int .i64 e,.int .i64 b,.slice ad len cap]] w fun r w'=>r=.returned (.bool true)∧Below w.heap.size w w':=by
  obtain ⟨W0,hW0⟩:∃ W0,W0=w.alloc (.cells #[.int .i64 e,.int .i64 b,.slice ad len cap] 42):=⟨_,rfl⟩
  have HB0:Hid (Below w.heap.size w W0):=by show Below _ _ _; rw [hW0]; exact (Below.refl _ _).alloc (Nat.le_refl _) _
  have HPL:Hid (∀ W:World,Below w.heap.size w W → Calls Tryz.prog 18 #[.agg #[.int .i64 e,.int .i64 b,.slice ad len cap],.int .i64 1,.int .i64 2] W fun r w'=>r=.returned (.bool true)∧Below W.heap.size W w'):=fun W hW=>play_any e b ad len cap g off 1 2 had hlen W (fun i hi=>by obtain ⟨o,ho⟩:=hops i hi; exact ⟨o,ho.keep hW⟩) (hw.on hW)
  clear had hlen hops hw
  go_enter Tryz.func4,Tryz.ntmps4
  go_wp2_with fail
  rw [← hW0]
  clear hW0
  refine (show Calls _ _ _ _ _ from HPL.out _ HB0.out).mono ?_
  rintro r w1 ⟨rfl,hb1⟩
  have HX:Hid (Below w.heap.size w w1):=bel_to HB0.out hb1 (Nat.le_refl _)
  clear hb1
  go_wp2
  go_returns
  exact ⟨by first | rfl | (simp; done),HX.out⟩
set_option maxHeartbeats 1000000 in
set_option maxRecDepth 100000 in
theorem QuicklistMidst_walk (e b:Int) (ad:Option Addr) (len cap g off:Nat) (had:len ≠ 0 → ad=some ⟨g,off,none⟩) (hlen:len ≤ 9223372036854775807) (w:World) (hops:∀ i,i < len → ∃ o,OpAt w g off i o) (hw:Lay w):Calls Tryz.prog 5 #[.agg #[.int .i64 e,.int .i64 b,.slice ad len cap]] w fun r w'=>r=.returned (.bool true)∧Below w.heap.size w w':=by
  obtain ⟨W0,hW0⟩:∃ W0,W0=w.alloc (.cells #[.int .i64 e,.int .i64 b,.slice ad len cap] 42):=⟨_,rfl⟩
  have HB0:Hid (Below w.heap.size w W0):=by show Below _ _ _; rw [hW0]; exact (Below.refl _ _).alloc (Nat.le_refl _) _
  have HPL:Hid (∀ W:World,Below w.heap.size w W → Calls Tryz.prog 18 #[.agg #[.int .i64 e,.int .i64 b,.slice ad len cap],.int .i64 3,.int .i64 5] W fun r w'=>r=.returned (.bool true)∧Below W.heap.size W w'):=fun W hW=>play_any e b ad len cap g off 3 5 had hlen W (fun i hi=>by obtain ⟨o,ho⟩:=hops i hi; exact ⟨o,ho.keep hW⟩) (hw.on hW)
  clear had hlen hops hw
  go_enter Tryz.func5,Tryz.ntmps5
  go_wp2_with fail
  rw [← hW0]
  clear hW0
  refine (show Calls _ _ _ _ _ from HPL.out _ HB0.out).mono ?_
  rintro r w1 ⟨rfl,hb1⟩
  have HX:Hid (Below w.heap.size w w1):=bel_to HB0.out hb1 (Nat.le_refl _)
  clear hb1
  go_wp2
  go_returns
  exact ⟨by first | rfl | (simp; done),HX.out⟩
set_option maxHeartbeats 1000000 in
set_option maxRecDepth 100000 in
theorem QuicklistAsks_walk (e b:Int) (ad:Option Addr) (len cap g off:Nat) (had:len ≠ 0 → ad=some ⟨g,off,none⟩) (hlen:len ≤ 9223372036854775807) (w:World) (hops:∀ i,i < len → ∃ o,OpAt w g off i o) (hw:Lay w):Calls Tryz.prog 6 #[.agg #[.int .i64 e,.int .i64 b,.slice ad len cap]] w fun r w'=>r=.returned (.bool true)∧Below w.heap.size w w':=by
  obtain ⟨W0,hW0⟩:∃ W0,W0=w.alloc (.cells #[.int .i64 e,.int .i64 b,.slice ad len cap] 42):=⟨_,rfl⟩
  have HB0:Hid (Below w.heap.size w W0):=by show Below _ _ _; rw [hW0]; exact (Below.refl _ _).alloc (Nat.le_refl _) _
  have HPL:Hid (∀ W:World,Below w.heap.size w W → Calls Tryz.prog 18 #[.agg #[.int .i64 e,.int .i64 b,.slice ad len cap],.int .i64 6,.int .i64 8] W fun r w'=>r=.returned (.bool true)∧Below W.heap.size W w'):=fun W hW=>play_any e b ad len cap g off 6 8 had hlen W (fun i hi=>by obtain ⟨o,ho⟩:=hops i hi; exact ⟨o,ho.keep hW⟩) (hw.on hW)
  clear had hlen hops hw
  go_enter Tryz.func6,Tryz.ntmps6
  go_wp2_with fail
  rw [← hW0]
  clear hW0
  refine (show Calls _ _ _ _ _ from HPL.out _ HB0.out).mono ?_
  rintro r w1 ⟨rfl,hb1⟩
  have HX:Hid (Below w.heap.size w w1):=bel_to HB0.out hb1 (Nat.le_refl _)
  clear hb1
  go_wp2
  go_returns
  exact ⟨by first | rfl | (simp; done),HX.out⟩
set_option maxHeartbeats 1000000 in
set_option maxRecDepth 100000 in
theorem QuicklistAll_walk (e b:Int) (ad:Option Addr) (len cap g off:Nat) (had:len ≠ 0 → ad=some ⟨g,off,none⟩) (hlen:len ≤ 9223372036854775807) (w:World) (hops:∀ i,i < len → ∃ o,OpAt w g off i o) (hw:Lay w):Calls Tryz.prog 7 #[.agg #[.int .i64 e,.int .i64 b,.slice ad len cap]] w fun r w'=>r=.returned (.bool true)∧Below w.heap.size w w':=by
  obtain ⟨W0,hW0⟩:∃ W0,W0=w.alloc (.cells #[.int .i64 e,.int .i64 b,.slice ad len cap] 42):=⟨_,rfl⟩
  have HB0:Hid (Below w.heap.size w W0):=by show Below _ _ _; rw [hW0]; exact (Below.refl _ _).alloc (Nat.le_refl _) _
  have HPL:Hid (∀ W:World,Below w.heap.size w W → Calls Tryz.prog 18 #[.agg #[.int .i64 e,.int .i64 b,.slice ad len cap],.int .i64 1,.int .i64 8] W fun r w'=>r=.returned (.bool true)∧Below W.heap.size W w'):=fun W hW=>play_any e b ad len cap g off 1 8 had hlen W (fun i hi=>by obtain ⟨o,ho⟩:=hops i hi; exact ⟨o,ho.keep hW⟩) (hw.on hW)
  clear had hlen hops hw
  go_enter Tryz.func7,Tryz.ntmps7
  go_wp2_with fail
  rw [← hW0]
  clear hW0
  refine (show Calls _ _ _ _ _ from HPL.out _ HB0.out).mono ?_
  rintro r w1 ⟨rfl,hb1⟩
  have HX:Hid (Below w.heap.size w w1):=bel_to HB0.out hb1 (Nat.le_refl _)
  clear hb1
  go_wp2
  go_returns
  exact ⟨by first | rfl | (simp; done),HX.out⟩
end Go.Proofs.YtjnbjfjoejfmpaaGreatDoor
