import Derived.Test.YtiefeeoellagnaaGreatDoorHD
import Derived.Stop.Asserts
import Derived.Deep.RegionHeld3
namespace Go.Proofs.YtiefeeoellagnaaGreatDoor.V
open Go.RowKit S5.IM
open S6 (Laid Lay)
set_option linter.unusedVariables false
set_option linter.unusedSimpArgs false
def txB (s:ByteArray):Value:=.iface 62 (.string s)
def liB (b:Nat):Value:=.iface 63 (.pointer (some ⟨b,0,none⟩))
def pzB (b:Nat):Value:=.iface 67 (.pointer (some ⟨b,0,none⟩))
def pE:Value:=.string ⟨#[]⟩
set_option maxRecDepth 20000 in
theorem asText_tx (bv:Nat) (k:Int) (s:ByteArray) (w:World) (h:w.heap[bv]?=some (vC k (txB s))):Calls Tryz.prog 75 #[.pointer (some ⟨bv,0,none⟩)] w fun e w'=>e=.returned (.tuple #[.string s,.int .i64 0])∧w'=w:=by
  unfold vC txB at *
  obtain ⟨c0,c1,cf⟩:=prow2 h
  clear h
  have hta:∀ W,(Instr.typeAssert (.iface 62 (.string s)) 61 62 true).run Tryz.prog W=.ok (.tuple #[.string s,.bool true]) W:=fun W=>by kernel_rfl
  go_enter Tryz.func75,Tryz.ntmps75
  go_wp2
  go_returns
  exact ⟨rfl,rfl⟩
set_option maxRecDepth 20000 in
theorem asList_tx (bv:Nat) (k:Int) (s:ByteArray) (w:World) (h:w.heap[bv]?=some (vC k (txB s))):Calls Tryz.prog 78 #[.pointer (some ⟨bv,0,none⟩)] w fun e w'=>e=.returned (.tuple #[.pointer none,.int .i64 4])∧w'=w:=by
  unfold vC txB at *
  obtain ⟨c0,c1,cf⟩:=prow2 h
  clear h
  have hta:∀ W,(Instr.typeAssert (.iface 62 (.string s)) 61 63 true).run Tryz.prog W=.ok (.tuple #[.pointer none,.bool false]) W:=fun W=>by kernel_rfl
  go_enter Tryz.func78,Tryz.ntmps78
  go_wp2
  go_returns
  exact ⟨rfl,rfl⟩
theorem taSet_tx (v:Value) (xT:TypeId) (w:World):(Instr.typeAssert (.iface 62 v) xT 145 true).run Tryz.prog w=.ok (.tuple #[.nilIface,.bool false]) w:=run_typeAssert_lacksB Tryz.underlying145 (by kernel_rfl) (by kernel_rfl) v xT w
set_option maxRecDepth 20000 in
theorem asSet_tx (bv:Nat) (k:Int) (s:ByteArray) (w:World) (h:w.heap[bv]?=some (vC k (txB s))):Calls Tryz.prog 67 #[.pointer (some ⟨bv,0,none⟩)] w fun e w'=>e=.returned (.tuple #[.nilIface,.int .i64 4])∧w'=w:=by
  unfold vC txB at *
  obtain ⟨c0,c1,cf⟩:=prow2 h
  clear h
  have hta:=fun W=>taSet_tx (.string s) 61 W
  go_enter Tryz.func67,Tryz.ntmps67
  go_wp2
  go_returns
  exact ⟨rfl,rfl⟩
theorem taHash_tx (v:Value) (xT:TypeId) (w:World):(Instr.typeAssert (.iface 62 v) xT 153 true).run Tryz.prog w=.ok (.tuple #[.nilIface,.bool false]) w:=run_typeAssert_lacksB Tryz.underlying153 (by kernel_rfl) (by kernel_rfl) v xT w
set_option maxRecDepth 20000 in
theorem asHash_tx (bv:Nat) (k:Int) (s:ByteArray) (w:World) (h:w.heap[bv]?=some (vC k (txB s))):Calls Tryz.prog 71 #[.pointer (some ⟨bv,0,none⟩)] w fun e w'=>e=.returned (.tuple #[.nilIface,.int .i64 4])∧w'=w:=by
  unfold vC txB at *
  obtain ⟨c0,c1,cf⟩:=prow2 h
  clear h
  have hta:=fun W=>taHash_tx (.string s) 61 W
  go_enter Tryz.func71,Tryz.ntmps71
  go_wp2
  go_returns
  exact ⟨rfl,rfl⟩
theorem taZset_tx (v:Value) (xT:TypeId) (w:World):(Instr.typeAssert (.iface 62 v) xT 269 true).run Tryz.prog w=.ok (.tuple #[.nilIface,.bool false]) w:=run_typeAssert_lacksB Tryz.underlying269 (by kernel_rfl) (by kernel_rfl) v xT w
set_option maxRecDepth 20000 in
theorem asZset_tx (bv:Nat) (k:Int) (s:ByteArray) (w:World) (h:w.heap[bv]?=some (vC k (txB s))):Calls Tryz.prog 171 #[.pointer (some ⟨bv,0,none⟩)] w fun e w'=>e=.returned (.tuple #[.nilIface,.int .i64 4])∧w'=w:=by
  unfold vC txB at *
  obtain ⟨c0,c1,cf⟩:=prow2 h
  clear h
  have hta:=fun W=>taZset_tx (.string s) 61 W
  go_enter Tryz.func171,Tryz.ntmps171
  go_wp2
  go_returns
  exact ⟨rfl,rfl⟩
theorem taGroup_tx (v:Value) (xT:TypeId) (w:World):(Instr.typeAssert (.iface 62 v) xT 230 true).run Tryz.prog w=.ok (.tuple #[.nilIface,.bool false]) w:=run_typeAssert_lacksB Tryz.underlying230 (by kernel_rfl) (by kernel_rfl) v xT w
set_option maxRecDepth 20000 in
theorem asGroup_tx (bv:Nat) (k:Int) (s:ByteArray) (w:World) (h:w.heap[bv]?=some (vC k (txB s))):Calls Tryz.prog 191 #[.pointer (some ⟨bv,0,none⟩)] w fun e w'=>e=.returned (.tuple #[.nilIface,.int .i64 4])∧w'=w:=by
  unfold vC txB at *
  obtain ⟨c0,c1,cf⟩:=prow2 h
  clear h
  have hta:=fun W=>taGroup_tx (.string s) 61 W
  go_enter Tryz.func191,Tryz.ntmps191
  go_wp2
  go_returns
  exact ⟨rfl,rfl⟩
end Go.Proofs.YtiefeeoellagnaaGreatDoor.V
namespace Go.Proofs.YtiefeeoellagnaaGreatDoor.V
open Go.RowKit S5.IM
open S6 (Laid Lay)
set_option linter.unusedVariables false
set_option linter.unusedSimpArgs false
def Not (f:Nat) (z:Value) (bv:Nat) (w:World):Prop:=∀ W,Below w.heap.size w W → Calls Tryz.prog f #[.pointer (some ⟨bv,0,none⟩)] W fun e w'=>e=.returned (.tuple #[z,.int .i64 4])∧w'=W
set_option maxRecDepth 20000 in
theorem At_ref (bv:Nat) (i:Int) (w:World) (h:Not 78 (.pointer none) bv w):Calls Tryz.prog 51 #[.pointer (some ⟨bv,0,none⟩),.int .i64 i] w fun e w'=>e=.returned (.tuple #[.string ⟨#[]⟩,.int .i64 4])∧Below w.heap.size w w':=by
  have H:Hid (∀ W,Below w.heap.size w W → Calls Tryz.prog 78 #[.pointer (some ⟨bv,0,none⟩)] W fun e w'=>e=.returned (.tuple #[.pointer none,.int .i64 4])∧w'=W):=h
  clear h
  go_enter Tryz.func51,Tryz.ntmps51
  go_wp2_with fail
  refine (show Calls _ _ _ _ _ from H.out _ (Below.refl _ _)).mono ?_
  rintro e w2 ⟨rfl,rfl⟩
  go_wp2
  go_returns
  exact ⟨rfl,(Below.refl _ _)⟩
set_option maxRecDepth 20000 in
theorem Range_ref (bv:Nat) (i n:Int) (w:World) (h:Not 78 (.pointer none) bv w):Calls Tryz.prog 53 #[.pointer (some ⟨bv,0,none⟩),.int .i64 i,.int .i64 n] w fun e w'=>e=.returned (.tuple #[.slice none 0 0,.int .i64 4])∧Below w.heap.size w w':=by
  have H:Hid (∀ W,Below w.heap.size w W → Calls Tryz.prog 78 #[.pointer (some ⟨bv,0,none⟩)] W fun e w'=>e=.returned (.tuple #[.pointer none,.int .i64 4])∧w'=W):=h
  clear h
  go_enter Tryz.func53,Tryz.ntmps53
  go_wp2_with fail
  refine (show Calls _ _ _ _ _ from H.out _ (Below.refl _ _)).mono ?_
  rintro e w2 ⟨rfl,rfl⟩
  go_wp2
  go_returns
  exact ⟨rfl,(Below.refl _ _)⟩
set_option maxRecDepth 20000 in
theorem Has_ref (bv:Nat) (s:ByteArray) (w:World) (h:Not 67 (.nilIface) bv w):Calls Tryz.prog 21 #[.pointer (some ⟨bv,0,none⟩),.string s] w fun e w'=>e=.returned (.tuple #[.bool false,.int .i64 4])∧Below w.heap.size w w':=by
  have H:Hid (∀ W,Below w.heap.size w W → Calls Tryz.prog 67 #[.pointer (some ⟨bv,0,none⟩)] W fun e w'=>e=.returned (.tuple #[.nilIface,.int .i64 4])∧w'=W):=h
  clear h
  go_enter Tryz.func21,Tryz.ntmps21
  go_wp2_with fail
  refine (show Calls _ _ _ _ _ from H.out _ (Below.refl _ _)).mono ?_
  rintro e w2 ⟨rfl,rfl⟩
  go_wp2
  go_returns
  exact ⟨rfl,(Below.refl _ _)⟩
set_option maxRecDepth 20000 in
theorem Members_ref (bv:Nat)  (w:World) (h:Not 67 (.nilIface) bv w):Calls Tryz.prog 56 #[.pointer (some ⟨bv,0,none⟩)] w fun e w'=>e=.returned (.tuple #[.slice none 0 0,.int .i64 4])∧Below w.heap.size w w':=by
  have H:Hid (∀ W,Below w.heap.size w W → Calls Tryz.prog 67 #[.pointer (some ⟨bv,0,none⟩)] W fun e w'=>e=.returned (.tuple #[.nilIface,.int .i64 4])∧w'=W):=h
  clear h
  go_enter Tryz.func56,Tryz.ntmps56
  go_wp2_with fail
  refine (show Calls _ _ _ _ _ from H.out _ (Below.refl _ _)).mono ?_
  rintro e w2 ⟨rfl,rfl⟩
  go_wp2
  go_returns
  exact ⟨rfl,(Below.refl _ _)⟩
set_option maxRecDepth 20000 in
theorem Field_ref (bv:Nat) (s:ByteArray) (w:World) (h:Not 71 (.nilIface) bv w):Calls Tryz.prog 23 #[.pointer (some ⟨bv,0,none⟩),.string s] w fun e w'=>e=.returned (.tuple #[.string ⟨#[]⟩,.bool false,.int .i64 4])∧Below w.heap.size w w':=by
  have H:Hid (∀ W,Below w.heap.size w W → Calls Tryz.prog 71 #[.pointer (some ⟨bv,0,none⟩)] W fun e w'=>e=.returned (.tuple #[.nilIface,.int .i64 4])∧w'=W):=h
  clear h
  go_enter Tryz.func23,Tryz.ntmps23
  go_wp2_with fail
  refine (show Calls _ _ _ _ _ from H.out _ (Below.refl _ _)).mono ?_
  rintro e w2 ⟨rfl,rfl⟩
  go_wp2
  go_returns
  exact ⟨rfl,(Below.refl _ _)⟩
set_option maxRecDepth 20000 in
theorem Fields_ref (bv:Nat)  (w:World) (h:Not 71 (.nilIface) bv w):Calls Tryz.prog 59 #[.pointer (some ⟨bv,0,none⟩)] w fun e w'=>e=.returned (.tuple #[.slice none 0 0,.int .i64 4])∧Below w.heap.size w w':=by
  have H:Hid (∀ W,Below w.heap.size w W → Calls Tryz.prog 71 #[.pointer (some ⟨bv,0,none⟩)] W fun e w'=>e=.returned (.tuple #[.nilIface,.int .i64 4])∧w'=W):=h
  clear h
  go_enter Tryz.func59,Tryz.ntmps59
  go_wp2_with fail
  refine (show Calls _ _ _ _ _ from H.out _ (Below.refl _ _)).mono ?_
  rintro e w2 ⟨rfl,rfl⟩
  go_wp2
  go_returns
  exact ⟨rfl,(Below.refl _ _)⟩
set_option maxRecDepth 20000 in
theorem Score_ref (bv:Nat) (s:ByteArray) (w:World) (h:Not 171 (.nilIface) bv w):Calls Tryz.prog 119 #[.pointer (some ⟨bv,0,none⟩),.string s] w fun e w'=>e=.returned (.tuple #[.int .i64 0,.bool false,.int .i64 4])∧Below w.heap.size w w':=by
  have H:Hid (∀ W,Below w.heap.size w W → Calls Tryz.prog 171 #[.pointer (some ⟨bv,0,none⟩)] W fun e w'=>e=.returned (.tuple #[.nilIface,.int .i64 4])∧w'=W):=h
  clear h
  go_enter Tryz.func119,Tryz.ntmps119
  go_wp2_with fail
  refine (show Calls _ _ _ _ _ from H.out _ (Below.refl _ _)).mono ?_
  rintro e w2 ⟨rfl,rfl⟩
  go_wp2
  go_returns
  exact ⟨rfl,(Below.refl _ _)⟩
set_option maxRecDepth 20000 in
theorem Rank_ref (bv:Nat) (s:ByteArray) (bk:Bool) (w:World) (h:Not 171 (.nilIface) bv w):Calls Tryz.prog 121 #[.pointer (some ⟨bv,0,none⟩),.string s,.bool bk] w fun e w'=>e=.returned (.tuple #[.int .i64 0,.bool false,.int .i64 4])∧Below w.heap.size w w':=by
  have H:Hid (∀ W,Below w.heap.size w W → Calls Tryz.prog 171 #[.pointer (some ⟨bv,0,none⟩)] W fun e w'=>e=.returned (.tuple #[.nilIface,.int .i64 4])∧w'=W):=h
  clear h
  go_enter Tryz.func121,Tryz.ntmps121
  go_wp2_with fail
  refine (show Calls _ _ _ _ _ from H.out _ (Below.refl _ _)).mono ?_
  rintro e w2 ⟨rfl,rfl⟩
  go_wp2
  go_returns
  exact ⟨rfl,(Below.refl _ _)⟩
set_option maxRecDepth 20000 in
theorem ByRank_ref (bv:Nat) (i n:Int) (bk:Bool) (w:World) (h:Not 171 (.nilIface) bv w):Calls Tryz.prog 123 #[.pointer (some ⟨bv,0,none⟩),.int .i64 i,.int .i64 n,.bool bk] w fun e w'=>e=.returned (.tuple #[.slice none 0 0,.int .i64 4])∧Below w.heap.size w w':=by
  have H:Hid (∀ W,Below w.heap.size w W → Calls Tryz.prog 171 #[.pointer (some ⟨bv,0,none⟩)] W fun e w'=>e=.returned (.tuple #[.nilIface,.int .i64 4])∧w'=W):=h
  clear h
  go_enter Tryz.func123,Tryz.ntmps123
  go_wp2_with fail
  refine (show Calls _ _ _ _ _ from H.out _ (Below.refl _ _)).mono ?_
  rintro e w2 ⟨rfl,rfl⟩
  go_wp2
  go_returns
  exact ⟨rfl,(Below.refl _ _)⟩
set_option maxRecDepth 20000 in
theorem Scan_ref (bv:Nat) (i n:Int) (w:World) (h:Not 191 (.nilIface) bv w):Calls Tryz.prog 130 #[.pointer (some ⟨bv,0,none⟩),.int .i64 i,.int .i64 n] w fun e w'=>e=.returned (.tuple #[.slice none 0 0,.int .i64 0,.int .i64 4])∧Below w.heap.size w w':=by
  have H:Hid (∀ W,Below w.heap.size w W → Calls Tryz.prog 191 #[.pointer (some ⟨bv,0,none⟩)] W fun e w'=>e=.returned (.tuple #[.nilIface,.int .i64 4])∧w'=W):=h
  clear h
  go_enter Tryz.func130,Tryz.ntmps130
  go_wp2_with fail
  refine (show Calls _ _ _ _ _ from H.out _ (Below.refl _ _)).mono ?_
  rintro e w2 ⟨rfl,rfl⟩
  go_wp2
  go_returns
  exact ⟨rfl,(Below.refl _ _)⟩
end Go.Proofs.YtiefeeoellagnaaGreatDoor.V
namespace Go.Proofs.YtiefeeoellagnaaGreatDoor.V
open Go.RowKit S5.IM
open S6 (Laid Lay)
set_option linter.unusedVariables false
set_option linter.unusedSimpArgs false
set_option maxHeartbeats 1000000 in
set_option maxRecDepth 20000 in
theorem Kind_any (bv:Nat) (k:Int) (b:Value) (w:World) (h:w.heap[bv]?=some (vC k b)):Calls Tryz.prog 42 #[.pointer (some ⟨bv,0,none⟩)] w fun e w'=>e=.returned (.int .i64 k)∧Below w.heap.size w w':=by
  unfold vC at *
  obtain ⟨c0,c1,cf⟩:=prow2 h
  clear h
  go_enter Tryz.func42,Tryz.ntmps42
  go_wp2
  go_returns
  exact ⟨rfl,Below.refl _ _⟩
set_option maxRecDepth 20000 in
theorem each_any (k:Int) (hk:1 ≤ k∧k ≤ 5) (w:World):Calls Tryz.prog 107 #[.int .i64 k] w fun e w'=>e=.returned (.int .i64 (if k=1 then 0 else if k ≤ 3 then 16 else if k=4 then 24 else 32))∧Below w.heap.size w w':=by
  have:k=1 ∨ k=2 ∨ k=3 ∨ k=4 ∨ k=5:=by omega
  rcases this with rfl | rfl | rfl | rfl | rfl
  all_goals
    go_enter Tryz.func107,Tryz.ntmps107
    go_wp2
    go_returns
    exact ⟨rfl,Below.refl _ _⟩
set_option maxHeartbeats 1000000 in
set_option maxRecDepth 20000 in
theorem New_str (t:TH) (ht:okT t=true) (w:World):Calls Tryz.prog 5 #[.int .i64 1,thV t] w fun e w'=>∃ bv,e=.returned (.tuple #[.pointer (some ⟨bv,0,none⟩),.int .i64 0])∧w.heap.size ≤ bv∧w'.heap[bv]?=some (vC 1 (txB ⟨#[]⟩))∧Below w.heap.size w w':=by
  have HCK:Hid (∀ W,Calls Tryz.prog 12 #[thV t] W fun e w'=>e=.returned (.int .i64 0)∧Below W.heap.size W w'):=fun W=>by have:=Check_any t W; rw [if_pos ht] at this; exact this
  clear ht
  obtain ⟨a,b,c,d,e,f,g,h,i⟩:=t
  unfold thV at *
  simp only [] at *
  obtain ⟨W1,hW1⟩:∃ W,W=w.alloc (.cells #[.int .i64 a,.int .i64 b,.int .i64 c,.int .i64 d,.int .i64 e,.int .i64 f,.int .i64 g,.int .i64 h,.int .i64 i] 23):=⟨_,rfl⟩
  have HB:Hid (Below w.heap.size w W1):=by rw [hW1]; exact (Below.refl _ _).alloc (Nat.le_refl _) _
  go_enter Tryz.func5,Tryz.ntmps5
  go_wp2_with fail
  rw [← hW1]
  refine (show Calls _ _ _ _ _ from HCK.out _).mono ?_
  rintro e w2 ⟨rfl,hb2⟩
  have HB2:Hid (Below w.heap.size w w2):=HB.out.trans (hb2.mono HB.out.size)
  clear hb2 hW1
  go_wp2
  go_returns
  exact ⟨w2.heap.size,rfl,HB2.out.size,one_alloc _ _,HB2.out.alloc HB2.out.size _⟩
set_option maxHeartbeats 1000000 in
set_option maxRecDepth 20000 in
theorem New_bad (k:Int) (t:TH) (ht:okT t=false) (w:World):Calls Tryz.prog 5 #[.int .i64 k,thV t] w fun e w'=>e=.returned (.tuple #[.pointer none,.int .i64 1])∧Below w.heap.size w w':=by
  have HCK:Hid (∀ W,Calls Tryz.prog 12 #[thV t] W fun e w'=>e=.returned (.int .i64 1)∧Below W.heap.size W w'):=fun W=>by have:=Check_any t W; rw [ht] at this; exact this
  clear ht
  obtain ⟨a,b,c,d,e,f,g,h,i⟩:=t
  unfold thV at *
  simp only [] at *
  obtain ⟨W1,hW1⟩:∃ W,W=w.alloc (.cells #[.int .i64 a,.int .i64 b,.int .i64 c,.int .i64 d,.int .i64 e,.int .i64 f,.int .i64 g,.int .i64 h,.int .i64 i] 23):=⟨_,rfl⟩
  have HB:Hid (Below w.heap.size w W1):=by rw [hW1]; exact (Below.refl _ _).alloc (Nat.le_refl _) _
  go_enter Tryz.func5,Tryz.ntmps5
  go_wp2_with fail
  rw [← hW1]
  refine (show Calls _ _ _ _ _ from HCK.out _).mono ?_
  rintro e w2 ⟨rfl,hb2⟩
  have HB2:Hid (Below w.heap.size w w2):=HB.out.trans (hb2.mono HB.out.size)
  clear hb2 hW1
  go_wp2
  go_returns
  exact ⟨rfl,HB2.out⟩
end Go.Proofs.YtiefeeoellagnaaGreatDoor.V
