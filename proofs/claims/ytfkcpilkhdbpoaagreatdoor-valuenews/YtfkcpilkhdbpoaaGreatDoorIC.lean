import Derived.Test.YtfkcpilkhdbpoaaGreatDoorHD
import Derived.Stop.Asserts
import Derived.Deep.RegionHeld3
import Derived.Test.YtfkcpilkhdbpoaaGreatDoorGC
namespace Go.Proofs.YtfkcpilkhdbpoaaGreatDoor.V
open Go.RowKit S5.IM
open S6 (Laid Lay)
set_option linter.unusedVariables false
set_option linter.unusedSimpArgs false
def txB (s : ByteArray) : Value := .iface 64 (.string s)
def liB (b : Nat) : Value := .iface 65 (.pointer (some ⟨b, 0, none⟩))
def pzB (b : Nat) : Value := .iface 69 (.pointer (some ⟨b, 0, none⟩))
def pE : Value := .string ⟨#[]⟩
set_option maxRecDepth 20000 in
theorem asText_tx (bv : Nat) (k : Int) (s : ByteArray) (w : World) (h : w.heap[bv]? = some (vC k (txB s))) : Calls Tryz.prog 75 #[.pointer (some ⟨bv, 0, none⟩)] w fun e w' => e = .returned (.tuple #[.string s, .int .i64 0]) ∧ w' = w := by
  unfold vC txB at *
  obtain ⟨c0, c1, cf⟩ := prow2 h
  clear h
  have hta : ∀ W, (Instr.typeAssert (.iface 64 (.string s)) 63 64 true).run Tryz.prog W = .ok (.tuple #[.string s, .bool true]) W := fun W => by kernel_rfl
  go_enter Tryz.func75, Tryz.ntmps75
  go_wp2
  go_returns
  exact ⟨rfl, rfl⟩
set_option maxRecDepth 20000 in
theorem asText_li (bv : Nat) (k : Int) (b : Nat) (w : World) (h : w.heap[bv]? = some (vC k (liB b))) : Calls Tryz.prog 75 #[.pointer (some ⟨bv, 0, none⟩)] w fun e w' => e = .returned (.tuple #[pE, .int .i64 4]) ∧ w' = w := by
  unfold vC liB at *
  obtain ⟨c0, c1, cf⟩ := prow2 h
  clear h
  have hta : ∀ W, (Instr.typeAssert (.iface 65 (.pointer (some ⟨b, 0, none⟩))) 63 64 true).run Tryz.prog W = .ok (.tuple #[.string ⟨#[]⟩, .bool false]) W := fun W => by kernel_rfl
  go_enter Tryz.func75, Tryz.ntmps75
  go_wp2
  go_returns
  exact ⟨rfl, rfl⟩
set_option maxRecDepth 20000 in
theorem asText_is (bv : Nat) (k : Int) (b : Nat) (w : World) (h : w.heap[bv]? = some (vC k (isB b))) : Calls Tryz.prog 75 #[.pointer (some ⟨bv, 0, none⟩)] w fun e w' => e = .returned (.tuple #[pE, .int .i64 4]) ∧ w' = w := by
  unfold vC isB at *
  obtain ⟨c0, c1, cf⟩ := prow2 h
  clear h
  have hta : ∀ W, (Instr.typeAssert (.iface 67 (.pointer (some ⟨b, 0, none⟩))) 63 64 true).run Tryz.prog W = .ok (.tuple #[.string ⟨#[]⟩, .bool false]) W := fun W => by kernel_rfl
  go_enter Tryz.func75, Tryz.ntmps75
  go_wp2
  go_returns
  exact ⟨rfl, rfl⟩
set_option maxRecDepth 20000 in
theorem asText_ph (bv : Nat) (k : Int) (b : Nat) (w : World) (h : w.heap[bv]? = some (vC k (phB b))) : Calls Tryz.prog 75 #[.pointer (some ⟨bv, 0, none⟩)] w fun e w' => e = .returned (.tuple #[pE, .int .i64 4]) ∧ w' = w := by
  unfold vC phB at *
  obtain ⟨c0, c1, cf⟩ := prow2 h
  clear h
  have hta : ∀ W, (Instr.typeAssert (.iface 71 (.pointer (some ⟨b, 0, none⟩))) 63 64 true).run Tryz.prog W = .ok (.tuple #[.string ⟨#[]⟩, .bool false]) W := fun W => by kernel_rfl
  go_enter Tryz.func75, Tryz.ntmps75
  go_wp2
  go_returns
  exact ⟨rfl, rfl⟩
set_option maxRecDepth 20000 in
theorem asText_pz (bv : Nat) (k : Int) (b : Nat) (w : World) (h : w.heap[bv]? = some (vC k (pzB b))) : Calls Tryz.prog 75 #[.pointer (some ⟨bv, 0, none⟩)] w fun e w' => e = .returned (.tuple #[pE, .int .i64 4]) ∧ w' = w := by
  unfold vC pzB at *
  obtain ⟨c0, c1, cf⟩ := prow2 h
  clear h
  have hta : ∀ W, (Instr.typeAssert (.iface 69 (.pointer (some ⟨b, 0, none⟩))) 63 64 true).run Tryz.prog W = .ok (.tuple #[.string ⟨#[]⟩, .bool false]) W := fun W => by kernel_rfl
  go_enter Tryz.func75, Tryz.ntmps75
  go_wp2
  go_returns
  exact ⟨rfl, rfl⟩
set_option maxRecDepth 20000 in
theorem asList_tx (bv : Nat) (k : Int) (s : ByteArray) (w : World) (h : w.heap[bv]? = some (vC k (txB s))) : Calls Tryz.prog 78 #[.pointer (some ⟨bv, 0, none⟩)] w fun e w' => e = .returned (.tuple #[.pointer none, .int .i64 4]) ∧ w' = w := by
  unfold vC txB at *
  obtain ⟨c0, c1, cf⟩ := prow2 h
  clear h
  have hta : ∀ W, (Instr.typeAssert (.iface 64 (.string s)) 63 65 true).run Tryz.prog W = .ok (.tuple #[.pointer none, .bool false]) W := fun W => by kernel_rfl
  go_enter Tryz.func78, Tryz.ntmps78
  go_wp2
  go_returns
  exact ⟨rfl, rfl⟩
set_option maxRecDepth 20000 in
theorem asList_li (bv : Nat) (k : Int) (b : Nat) (w : World) (h : w.heap[bv]? = some (vC k (liB b))) : Calls Tryz.prog 78 #[.pointer (some ⟨bv, 0, none⟩)] w fun e w' => e = .returned (.tuple #[.pointer (some ⟨b, 0, none⟩), .int .i64 0]) ∧ w' = w := by
  unfold vC liB at *
  obtain ⟨c0, c1, cf⟩ := prow2 h
  clear h
  have hta : ∀ W, (Instr.typeAssert (.iface 65 (.pointer (some ⟨b, 0, none⟩))) 63 65 true).run Tryz.prog W = .ok (.tuple #[.pointer (some ⟨b, 0, none⟩), .bool true]) W := fun W => by kernel_rfl
  go_enter Tryz.func78, Tryz.ntmps78
  go_wp2
  go_returns
  exact ⟨rfl, rfl⟩
set_option maxRecDepth 20000 in
theorem asList_is (bv : Nat) (k : Int) (b : Nat) (w : World) (h : w.heap[bv]? = some (vC k (isB b))) : Calls Tryz.prog 78 #[.pointer (some ⟨bv, 0, none⟩)] w fun e w' => e = .returned (.tuple #[.pointer none, .int .i64 4]) ∧ w' = w := by
  unfold vC isB at *
  obtain ⟨c0, c1, cf⟩ := prow2 h
  clear h
  have hta : ∀ W, (Instr.typeAssert (.iface 67 (.pointer (some ⟨b, 0, none⟩))) 63 65 true).run Tryz.prog W = .ok (.tuple #[.pointer none, .bool false]) W := fun W => by kernel_rfl
  go_enter Tryz.func78, Tryz.ntmps78
  go_wp2
  go_returns
  exact ⟨rfl, rfl⟩
set_option maxRecDepth 20000 in
theorem asList_ph (bv : Nat) (k : Int) (b : Nat) (w : World) (h : w.heap[bv]? = some (vC k (phB b))) : Calls Tryz.prog 78 #[.pointer (some ⟨bv, 0, none⟩)] w fun e w' => e = .returned (.tuple #[.pointer none, .int .i64 4]) ∧ w' = w := by
  unfold vC phB at *
  obtain ⟨c0, c1, cf⟩ := prow2 h
  clear h
  have hta : ∀ W, (Instr.typeAssert (.iface 71 (.pointer (some ⟨b, 0, none⟩))) 63 65 true).run Tryz.prog W = .ok (.tuple #[.pointer none, .bool false]) W := fun W => by kernel_rfl
  go_enter Tryz.func78, Tryz.ntmps78
  go_wp2
  go_returns
  exact ⟨rfl, rfl⟩
set_option maxRecDepth 20000 in
theorem asList_pz (bv : Nat) (k : Int) (b : Nat) (w : World) (h : w.heap[bv]? = some (vC k (pzB b))) : Calls Tryz.prog 78 #[.pointer (some ⟨bv, 0, none⟩)] w fun e w' => e = .returned (.tuple #[.pointer none, .int .i64 4]) ∧ w' = w := by
  unfold vC pzB at *
  obtain ⟨c0, c1, cf⟩ := prow2 h
  clear h
  have hta : ∀ W, (Instr.typeAssert (.iface 69 (.pointer (some ⟨b, 0, none⟩))) 63 65 true).run Tryz.prog W = .ok (.tuple #[.pointer none, .bool false]) W := fun W => by kernel_rfl
  go_enter Tryz.func78, Tryz.ntmps78
  go_wp2
  go_returns
  exact ⟨rfl, rfl⟩
theorem taSet_tx (v : Value) (xT : TypeId) (w : World) : (Instr.typeAssert (.iface 64 v) xT 145 true).run Tryz.prog w = .ok (.tuple #[.nilIface, .bool false]) w := run_typeAssert_lacksB Tryz.underlying145 (by kernel_rfl) (by kernel_rfl) v xT w
set_option maxRecDepth 20000 in
theorem asSet_tx (bv : Nat) (k : Int) (s : ByteArray) (w : World) (h : w.heap[bv]? = some (vC k (txB s))) : Calls Tryz.prog 67 #[.pointer (some ⟨bv, 0, none⟩)] w fun e w' => e = .returned (.tuple #[.nilIface, .int .i64 4]) ∧ w' = w := by
  unfold vC txB at *
  obtain ⟨c0, c1, cf⟩ := prow2 h
  clear h
  have hta := fun W => taSet_tx (.string s) 63 W
  go_enter Tryz.func67, Tryz.ntmps67
  go_wp2
  go_returns
  exact ⟨rfl, rfl⟩
theorem taSet_li (v : Value) (xT : TypeId) (w : World) : (Instr.typeAssert (.iface 65 v) xT 145 true).run Tryz.prog w = .ok (.tuple #[.nilIface, .bool false]) w := run_typeAssert_lacksB Tryz.underlying145 (by kernel_rfl) (by kernel_rfl) v xT w
set_option maxRecDepth 20000 in
theorem asSet_li (bv : Nat) (k : Int) (b : Nat) (w : World) (h : w.heap[bv]? = some (vC k (liB b))) : Calls Tryz.prog 67 #[.pointer (some ⟨bv, 0, none⟩)] w fun e w' => e = .returned (.tuple #[.nilIface, .int .i64 4]) ∧ w' = w := by
  unfold vC liB at *
  obtain ⟨c0, c1, cf⟩ := prow2 h
  clear h
  have hta := fun W => taSet_li (.pointer (some ⟨b, 0, none⟩)) 63 W
  go_enter Tryz.func67, Tryz.ntmps67
  go_wp2
  go_returns
  exact ⟨rfl, rfl⟩
theorem taSet_is (v : Value) (xT : TypeId) (w : World) : (Instr.typeAssert (.iface 67 v) xT 145 true).run Tryz.prog w = .ok (.tuple #[.iface 67 v, .bool true]) w := run_typeAssert_hasB Tryz.underlying145 (by kernel_rfl) v xT w
set_option maxRecDepth 20000 in
theorem asSet_is (bv : Nat) (k : Int) (b : Nat) (w : World) (h : w.heap[bv]? = some (vC k (isB b))) : Calls Tryz.prog 67 #[.pointer (some ⟨bv, 0, none⟩)] w fun e w' => e = .returned (.tuple #[isB b, .int .i64 0]) ∧ w' = w := by
  unfold vC isB at *
  obtain ⟨c0, c1, cf⟩ := prow2 h
  clear h
  have hta := fun W => taSet_is (.pointer (some ⟨b, 0, none⟩)) 63 W
  go_enter Tryz.func67, Tryz.ntmps67
  go_wp2
  go_returns
  exact ⟨rfl, rfl⟩
theorem taSet_ph (v : Value) (xT : TypeId) (w : World) : (Instr.typeAssert (.iface 71 v) xT 145 true).run Tryz.prog w = .ok (.tuple #[.nilIface, .bool false]) w := run_typeAssert_lacksB Tryz.underlying145 (by kernel_rfl) (by kernel_rfl) v xT w
set_option maxRecDepth 20000 in
theorem asSet_ph (bv : Nat) (k : Int) (b : Nat) (w : World) (h : w.heap[bv]? = some (vC k (phB b))) : Calls Tryz.prog 67 #[.pointer (some ⟨bv, 0, none⟩)] w fun e w' => e = .returned (.tuple #[.nilIface, .int .i64 4]) ∧ w' = w := by
  unfold vC phB at *
  obtain ⟨c0, c1, cf⟩ := prow2 h
  clear h
  have hta := fun W => taSet_ph (.pointer (some ⟨b, 0, none⟩)) 63 W
  go_enter Tryz.func67, Tryz.ntmps67
  go_wp2
  go_returns
  exact ⟨rfl, rfl⟩
theorem taSet_pz (v : Value) (xT : TypeId) (w : World) : (Instr.typeAssert (.iface 69 v) xT 145 true).run Tryz.prog w = .ok (.tuple #[.nilIface, .bool false]) w := run_typeAssert_lacksB Tryz.underlying145 (by kernel_rfl) (by kernel_rfl) v xT w
set_option maxRecDepth 20000 in
theorem asSet_pz (bv : Nat) (k : Int) (b : Nat) (w : World) (h : w.heap[bv]? = some (vC k (pzB b))) : Calls Tryz.prog 67 #[.pointer (some ⟨bv, 0, none⟩)] w fun e w' => e = .returned (.tuple #[.nilIface, .int .i64 4]) ∧ w' = w := by
  unfold vC pzB at *
  obtain ⟨c0, c1, cf⟩ := prow2 h
  clear h
  have hta := fun W => taSet_pz (.pointer (some ⟨b, 0, none⟩)) 63 W
  go_enter Tryz.func67, Tryz.ntmps67
  go_wp2
  go_returns
  exact ⟨rfl, rfl⟩
theorem taHash_tx (v : Value) (xT : TypeId) (w : World) : (Instr.typeAssert (.iface 64 v) xT 153 true).run Tryz.prog w = .ok (.tuple #[.nilIface, .bool false]) w := run_typeAssert_lacksB Tryz.underlying153 (by kernel_rfl) (by kernel_rfl) v xT w
set_option maxRecDepth 20000 in
theorem asHash_tx (bv : Nat) (k : Int) (s : ByteArray) (w : World) (h : w.heap[bv]? = some (vC k (txB s))) : Calls Tryz.prog 71 #[.pointer (some ⟨bv, 0, none⟩)] w fun e w' => e = .returned (.tuple #[.nilIface, .int .i64 4]) ∧ w' = w := by
  unfold vC txB at *
  obtain ⟨c0, c1, cf⟩ := prow2 h
  clear h
  have hta := fun W => taHash_tx (.string s) 63 W
  go_enter Tryz.func71, Tryz.ntmps71
  go_wp2
  go_returns
  exact ⟨rfl, rfl⟩
theorem taHash_li (v : Value) (xT : TypeId) (w : World) : (Instr.typeAssert (.iface 65 v) xT 153 true).run Tryz.prog w = .ok (.tuple #[.nilIface, .bool false]) w := run_typeAssert_lacksB Tryz.underlying153 (by kernel_rfl) (by kernel_rfl) v xT w
set_option maxRecDepth 20000 in
theorem asHash_li (bv : Nat) (k : Int) (b : Nat) (w : World) (h : w.heap[bv]? = some (vC k (liB b))) : Calls Tryz.prog 71 #[.pointer (some ⟨bv, 0, none⟩)] w fun e w' => e = .returned (.tuple #[.nilIface, .int .i64 4]) ∧ w' = w := by
  unfold vC liB at *
  obtain ⟨c0, c1, cf⟩ := prow2 h
  clear h
  have hta := fun W => taHash_li (.pointer (some ⟨b, 0, none⟩)) 63 W
  go_enter Tryz.func71, Tryz.ntmps71
  go_wp2
  go_returns
  exact ⟨rfl, rfl⟩
theorem taHash_is (v : Value) (xT : TypeId) (w : World) : (Instr.typeAssert (.iface 67 v) xT 153 true).run Tryz.prog w = .ok (.tuple #[.nilIface, .bool false]) w := run_typeAssert_lacksB Tryz.underlying153 (by kernel_rfl) (by kernel_rfl) v xT w
set_option maxRecDepth 20000 in
theorem asHash_is (bv : Nat) (k : Int) (b : Nat) (w : World) (h : w.heap[bv]? = some (vC k (isB b))) : Calls Tryz.prog 71 #[.pointer (some ⟨bv, 0, none⟩)] w fun e w' => e = .returned (.tuple #[.nilIface, .int .i64 4]) ∧ w' = w := by
  unfold vC isB at *
  obtain ⟨c0, c1, cf⟩ := prow2 h
  clear h
  have hta := fun W => taHash_is (.pointer (some ⟨b, 0, none⟩)) 63 W
  go_enter Tryz.func71, Tryz.ntmps71
  go_wp2
  go_returns
  exact ⟨rfl, rfl⟩
theorem taHash_ph (v : Value) (xT : TypeId) (w : World) : (Instr.typeAssert (.iface 71 v) xT 153 true).run Tryz.prog w = .ok (.tuple #[.iface 71 v, .bool true]) w := run_typeAssert_hasB Tryz.underlying153 (by kernel_rfl) v xT w
set_option maxRecDepth 20000 in
theorem asHash_ph (bv : Nat) (k : Int) (b : Nat) (w : World) (h : w.heap[bv]? = some (vC k (phB b))) : Calls Tryz.prog 71 #[.pointer (some ⟨bv, 0, none⟩)] w fun e w' => e = .returned (.tuple #[phB b, .int .i64 0]) ∧ w' = w := by
  unfold vC phB at *
  obtain ⟨c0, c1, cf⟩ := prow2 h
  clear h
  have hta := fun W => taHash_ph (.pointer (some ⟨b, 0, none⟩)) 63 W
  go_enter Tryz.func71, Tryz.ntmps71
  go_wp2
  go_returns
  exact ⟨rfl, rfl⟩
theorem taHash_pz (v : Value) (xT : TypeId) (w : World) : (Instr.typeAssert (.iface 69 v) xT 153 true).run Tryz.prog w = .ok (.tuple #[.nilIface, .bool false]) w := run_typeAssert_lacksB Tryz.underlying153 (by kernel_rfl) (by kernel_rfl) v xT w
set_option maxRecDepth 20000 in
theorem asHash_pz (bv : Nat) (k : Int) (b : Nat) (w : World) (h : w.heap[bv]? = some (vC k (pzB b))) : Calls Tryz.prog 71 #[.pointer (some ⟨bv, 0, none⟩)] w fun e w' => e = .returned (.tuple #[.nilIface, .int .i64 4]) ∧ w' = w := by
  unfold vC pzB at *
  obtain ⟨c0, c1, cf⟩ := prow2 h
  clear h
  have hta := fun W => taHash_pz (.pointer (some ⟨b, 0, none⟩)) 63 W
  go_enter Tryz.func71, Tryz.ntmps71
  go_wp2
  go_returns
  exact ⟨rfl, rfl⟩
theorem taZset_tx (v : Value) (xT : TypeId) (w : World) : (Instr.typeAssert (.iface 64 v) xT 269 true).run Tryz.prog w = .ok (.tuple #[.nilIface, .bool false]) w := run_typeAssert_lacksB Tryz.underlying269 (by kernel_rfl) (by kernel_rfl) v xT w
set_option maxRecDepth 20000 in
theorem asZset_tx (bv : Nat) (k : Int) (s : ByteArray) (w : World) (h : w.heap[bv]? = some (vC k (txB s))) : Calls Tryz.prog 171 #[.pointer (some ⟨bv, 0, none⟩)] w fun e w' => e = .returned (.tuple #[.nilIface, .int .i64 4]) ∧ w' = w := by
  unfold vC txB at *
  obtain ⟨c0, c1, cf⟩ := prow2 h
  clear h
  have hta := fun W => taZset_tx (.string s) 63 W
  go_enter Tryz.func171, Tryz.ntmps171
  go_wp2
  go_returns
  exact ⟨rfl, rfl⟩
theorem taZset_li (v : Value) (xT : TypeId) (w : World) : (Instr.typeAssert (.iface 65 v) xT 269 true).run Tryz.prog w = .ok (.tuple #[.nilIface, .bool false]) w := run_typeAssert_lacksB Tryz.underlying269 (by kernel_rfl) (by kernel_rfl) v xT w
set_option maxRecDepth 20000 in
theorem asZset_li (bv : Nat) (k : Int) (b : Nat) (w : World) (h : w.heap[bv]? = some (vC k (liB b))) : Calls Tryz.prog 171 #[.pointer (some ⟨bv, 0, none⟩)] w fun e w' => e = .returned (.tuple #[.nilIface, .int .i64 4]) ∧ w' = w := by
  unfold vC liB at *
  obtain ⟨c0, c1, cf⟩ := prow2 h
  clear h
  have hta := fun W => taZset_li (.pointer (some ⟨b, 0, none⟩)) 63 W
  go_enter Tryz.func171, Tryz.ntmps171
  go_wp2
  go_returns
  exact ⟨rfl, rfl⟩
theorem taZset_is (v : Value) (xT : TypeId) (w : World) : (Instr.typeAssert (.iface 67 v) xT 269 true).run Tryz.prog w = .ok (.tuple #[.nilIface, .bool false]) w := run_typeAssert_lacksB Tryz.underlying269 (by kernel_rfl) (by kernel_rfl) v xT w
set_option maxRecDepth 20000 in
theorem asZset_is (bv : Nat) (k : Int) (b : Nat) (w : World) (h : w.heap[bv]? = some (vC k (isB b))) : Calls Tryz.prog 171 #[.pointer (some ⟨bv, 0, none⟩)] w fun e w' => e = .returned (.tuple #[.nilIface, .int .i64 4]) ∧ w' = w := by
  unfold vC isB at *
  obtain ⟨c0, c1, cf⟩ := prow2 h
  clear h
  have hta := fun W => taZset_is (.pointer (some ⟨b, 0, none⟩)) 63 W
  go_enter Tryz.func171, Tryz.ntmps171
  go_wp2
  go_returns
  exact ⟨rfl, rfl⟩
theorem taZset_ph (v : Value) (xT : TypeId) (w : World) : (Instr.typeAssert (.iface 71 v) xT 269 true).run Tryz.prog w = .ok (.tuple #[.nilIface, .bool false]) w := run_typeAssert_lacksB Tryz.underlying269 (by kernel_rfl) (by kernel_rfl) v xT w
set_option maxRecDepth 20000 in
theorem asZset_ph (bv : Nat) (k : Int) (b : Nat) (w : World) (h : w.heap[bv]? = some (vC k (phB b))) : Calls Tryz.prog 171 #[.pointer (some ⟨bv, 0, none⟩)] w fun e w' => e = .returned (.tuple #[.nilIface, .int .i64 4]) ∧ w' = w := by
  unfold vC phB at *
  obtain ⟨c0, c1, cf⟩ := prow2 h
  clear h
  have hta := fun W => taZset_ph (.pointer (some ⟨b, 0, none⟩)) 63 W
  go_enter Tryz.func171, Tryz.ntmps171
  go_wp2
  go_returns
  exact ⟨rfl, rfl⟩
theorem taZset_pz (v : Value) (xT : TypeId) (w : World) : (Instr.typeAssert (.iface 69 v) xT 269 true).run Tryz.prog w = .ok (.tuple #[.iface 69 v, .bool true]) w := run_typeAssert_hasB Tryz.underlying269 (by kernel_rfl) v xT w
set_option maxRecDepth 20000 in
theorem asZset_pz (bv : Nat) (k : Int) (b : Nat) (w : World) (h : w.heap[bv]? = some (vC k (pzB b))) : Calls Tryz.prog 171 #[.pointer (some ⟨bv, 0, none⟩)] w fun e w' => e = .returned (.tuple #[pzB b, .int .i64 0]) ∧ w' = w := by
  unfold vC pzB at *
  obtain ⟨c0, c1, cf⟩ := prow2 h
  clear h
  have hta := fun W => taZset_pz (.pointer (some ⟨b, 0, none⟩)) 63 W
  go_enter Tryz.func171, Tryz.ntmps171
  go_wp2
  go_returns
  exact ⟨rfl, rfl⟩
theorem taGroup_tx (v : Value) (xT : TypeId) (w : World) : (Instr.typeAssert (.iface 64 v) xT 230 true).run Tryz.prog w = .ok (.tuple #[.nilIface, .bool false]) w := run_typeAssert_lacksB Tryz.underlying230 (by kernel_rfl) (by kernel_rfl) v xT w
set_option maxRecDepth 20000 in
theorem asGroup_tx (bv : Nat) (k : Int) (s : ByteArray) (w : World) (h : w.heap[bv]? = some (vC k (txB s))) : Calls Tryz.prog 191 #[.pointer (some ⟨bv, 0, none⟩)] w fun e w' => e = .returned (.tuple #[.nilIface, .int .i64 4]) ∧ w' = w := by
  unfold vC txB at *
  obtain ⟨c0, c1, cf⟩ := prow2 h
  clear h
  have hta := fun W => taGroup_tx (.string s) 63 W
  go_enter Tryz.func191, Tryz.ntmps191
  go_wp2
  go_returns
  exact ⟨rfl, rfl⟩
theorem taGroup_li (v : Value) (xT : TypeId) (w : World) : (Instr.typeAssert (.iface 65 v) xT 230 true).run Tryz.prog w = .ok (.tuple #[.nilIface, .bool false]) w := run_typeAssert_lacksB Tryz.underlying230 (by kernel_rfl) (by kernel_rfl) v xT w
set_option maxRecDepth 20000 in
theorem asGroup_li (bv : Nat) (k : Int) (b : Nat) (w : World) (h : w.heap[bv]? = some (vC k (liB b))) : Calls Tryz.prog 191 #[.pointer (some ⟨bv, 0, none⟩)] w fun e w' => e = .returned (.tuple #[.nilIface, .int .i64 4]) ∧ w' = w := by
  unfold vC liB at *
  obtain ⟨c0, c1, cf⟩ := prow2 h
  clear h
  have hta := fun W => taGroup_li (.pointer (some ⟨b, 0, none⟩)) 63 W
  go_enter Tryz.func191, Tryz.ntmps191
  go_wp2
  go_returns
  exact ⟨rfl, rfl⟩
theorem taGroup_is (v : Value) (xT : TypeId) (w : World) : (Instr.typeAssert (.iface 67 v) xT 230 true).run Tryz.prog w = .ok (.tuple #[.iface 67 v, .bool true]) w := run_typeAssert_hasB Tryz.underlying230 (by kernel_rfl) v xT w
set_option maxRecDepth 20000 in
theorem asGroup_is (bv : Nat) (k : Int) (b : Nat) (w : World) (h : w.heap[bv]? = some (vC k (isB b))) : Calls Tryz.prog 191 #[.pointer (some ⟨bv, 0, none⟩)] w fun e w' => e = .returned (.tuple #[isB b, .int .i64 0]) ∧ w' = w := by
  unfold vC isB at *
  obtain ⟨c0, c1, cf⟩ := prow2 h
  clear h
  have hta := fun W => taGroup_is (.pointer (some ⟨b, 0, none⟩)) 63 W
  go_enter Tryz.func191, Tryz.ntmps191
  go_wp2
  go_returns
  exact ⟨rfl, rfl⟩
theorem taGroup_ph (v : Value) (xT : TypeId) (w : World) : (Instr.typeAssert (.iface 71 v) xT 230 true).run Tryz.prog w = .ok (.tuple #[.iface 71 v, .bool true]) w := run_typeAssert_hasB Tryz.underlying230 (by kernel_rfl) v xT w
set_option maxRecDepth 20000 in
theorem asGroup_ph (bv : Nat) (k : Int) (b : Nat) (w : World) (h : w.heap[bv]? = some (vC k (phB b))) : Calls Tryz.prog 191 #[.pointer (some ⟨bv, 0, none⟩)] w fun e w' => e = .returned (.tuple #[phB b, .int .i64 0]) ∧ w' = w := by
  unfold vC phB at *
  obtain ⟨c0, c1, cf⟩ := prow2 h
  clear h
  have hta := fun W => taGroup_ph (.pointer (some ⟨b, 0, none⟩)) 63 W
  go_enter Tryz.func191, Tryz.ntmps191
  go_wp2
  go_returns
  exact ⟨rfl, rfl⟩
theorem taGroup_pz (v : Value) (xT : TypeId) (w : World) : (Instr.typeAssert (.iface 69 v) xT 230 true).run Tryz.prog w = .ok (.tuple #[.iface 69 v, .bool true]) w := run_typeAssert_hasB Tryz.underlying230 (by kernel_rfl) v xT w
set_option maxRecDepth 20000 in
theorem asGroup_pz (bv : Nat) (k : Int) (b : Nat) (w : World) (h : w.heap[bv]? = some (vC k (pzB b))) : Calls Tryz.prog 191 #[.pointer (some ⟨bv, 0, none⟩)] w fun e w' => e = .returned (.tuple #[pzB b, .int .i64 0]) ∧ w' = w := by
  unfold vC pzB at *
  obtain ⟨c0, c1, cf⟩ := prow2 h
  clear h
  have hta := fun W => taGroup_pz (.pointer (some ⟨b, 0, none⟩)) 63 W
  go_enter Tryz.func191, Tryz.ntmps191
  go_wp2
  go_returns
  exact ⟨rfl, rfl⟩
end Go.Proofs.YtfkcpilkhdbpoaaGreatDoor.V
namespace Go.Proofs.YtfkcpilkhdbpoaaGreatDoor.V
open Go.RowKit S5.IM
open S6 (Laid Lay)
set_option linter.unusedVariables false
set_option linter.unusedSimpArgs false
/-- A value that is of no such kind: what asX answers. -/
def Not (f : Nat) (z : Value) (bv : Nat) (w : World) : Prop := ∀ W, Below w.heap.size w W → Calls Tryz.prog f #[.pointer (some ⟨bv, 0, none⟩)] W fun e w' => e = .returned (.tuple #[z, .int .i64 4]) ∧ w' = W
set_option maxRecDepth 20000 in
theorem At_ref (bv : Nat) (i : Int) (w : World) (h : Not 78 (.pointer none) bv w) : Calls Tryz.prog 51 #[.pointer (some ⟨bv, 0, none⟩), .int .i64 i] w fun e w' => e = .returned (.tuple #[.string ⟨#[]⟩, .int .i64 4]) ∧ Below w.heap.size w w' := by
  have H : Hid (∀ W, Below w.heap.size w W → Calls Tryz.prog 78 #[.pointer (some ⟨bv, 0, none⟩)] W fun e w' => e = .returned (.tuple #[.pointer none, .int .i64 4]) ∧ w' = W) := h
  clear h
  go_enter Tryz.func51, Tryz.ntmps51
  go_wp2_with fail
  refine (show Calls _ _ _ _ _ from H.out _ (Below.refl _ _)).mono ?_
  rintro e w2 ⟨rfl, rfl⟩
  go_wp2
  go_returns
  exact ⟨rfl, (Below.refl _ _)⟩
set_option maxRecDepth 20000 in
theorem Range_ref (bv : Nat) (i n : Int) (w : World) (h : Not 78 (.pointer none) bv w) : Calls Tryz.prog 53 #[.pointer (some ⟨bv, 0, none⟩), .int .i64 i, .int .i64 n] w fun e w' => e = .returned (.tuple #[.slice none 0 0, .int .i64 4]) ∧ Below w.heap.size w w' := by
  have H : Hid (∀ W, Below w.heap.size w W → Calls Tryz.prog 78 #[.pointer (some ⟨bv, 0, none⟩)] W fun e w' => e = .returned (.tuple #[.pointer none, .int .i64 4]) ∧ w' = W) := h
  clear h
  go_enter Tryz.func53, Tryz.ntmps53
  go_wp2_with fail
  refine (show Calls _ _ _ _ _ from H.out _ (Below.refl _ _)).mono ?_
  rintro e w2 ⟨rfl, rfl⟩
  go_wp2
  go_returns
  exact ⟨rfl, (Below.refl _ _)⟩
set_option maxRecDepth 20000 in
theorem Has_ref (bv : Nat) (s : ByteArray) (w : World) (h : Not 67 (.nilIface) bv w) : Calls Tryz.prog 21 #[.pointer (some ⟨bv, 0, none⟩), .string s] w fun e w' => e = .returned (.tuple #[.bool false, .int .i64 4]) ∧ Below w.heap.size w w' := by
  have H : Hid (∀ W, Below w.heap.size w W → Calls Tryz.prog 67 #[.pointer (some ⟨bv, 0, none⟩)] W fun e w' => e = .returned (.tuple #[.nilIface, .int .i64 4]) ∧ w' = W) := h
  clear h
  go_enter Tryz.func21, Tryz.ntmps21
  go_wp2_with fail
  refine (show Calls _ _ _ _ _ from H.out _ (Below.refl _ _)).mono ?_
  rintro e w2 ⟨rfl, rfl⟩
  go_wp2
  go_returns
  exact ⟨rfl, (Below.refl _ _)⟩
set_option maxRecDepth 20000 in
theorem Members_ref (bv : Nat)  (w : World) (h : Not 67 (.nilIface) bv w) : Calls Tryz.prog 56 #[.pointer (some ⟨bv, 0, none⟩)] w fun e w' => e = .returned (.tuple #[.slice none 0 0, .int .i64 4]) ∧ Below w.heap.size w w' := by
  have H : Hid (∀ W, Below w.heap.size w W → Calls Tryz.prog 67 #[.pointer (some ⟨bv, 0, none⟩)] W fun e w' => e = .returned (.tuple #[.nilIface, .int .i64 4]) ∧ w' = W) := h
  clear h
  go_enter Tryz.func56, Tryz.ntmps56
  go_wp2_with fail
  refine (show Calls _ _ _ _ _ from H.out _ (Below.refl _ _)).mono ?_
  rintro e w2 ⟨rfl, rfl⟩
  go_wp2
  go_returns
  exact ⟨rfl, (Below.refl _ _)⟩
set_option maxRecDepth 20000 in
theorem Field_ref (bv : Nat) (s : ByteArray) (w : World) (h : Not 71 (.nilIface) bv w) : Calls Tryz.prog 23 #[.pointer (some ⟨bv, 0, none⟩), .string s] w fun e w' => e = .returned (.tuple #[.string ⟨#[]⟩, .bool false, .int .i64 4]) ∧ Below w.heap.size w w' := by
  have H : Hid (∀ W, Below w.heap.size w W → Calls Tryz.prog 71 #[.pointer (some ⟨bv, 0, none⟩)] W fun e w' => e = .returned (.tuple #[.nilIface, .int .i64 4]) ∧ w' = W) := h
  clear h
  go_enter Tryz.func23, Tryz.ntmps23
  go_wp2_with fail
  refine (show Calls _ _ _ _ _ from H.out _ (Below.refl _ _)).mono ?_
  rintro e w2 ⟨rfl, rfl⟩
  go_wp2
  go_returns
  exact ⟨rfl, (Below.refl _ _)⟩
set_option maxRecDepth 20000 in
theorem Fields_ref (bv : Nat)  (w : World) (h : Not 71 (.nilIface) bv w) : Calls Tryz.prog 59 #[.pointer (some ⟨bv, 0, none⟩)] w fun e w' => e = .returned (.tuple #[.slice none 0 0, .int .i64 4]) ∧ Below w.heap.size w w' := by
  have H : Hid (∀ W, Below w.heap.size w W → Calls Tryz.prog 71 #[.pointer (some ⟨bv, 0, none⟩)] W fun e w' => e = .returned (.tuple #[.nilIface, .int .i64 4]) ∧ w' = W) := h
  clear h
  go_enter Tryz.func59, Tryz.ntmps59
  go_wp2_with fail
  refine (show Calls _ _ _ _ _ from H.out _ (Below.refl _ _)).mono ?_
  rintro e w2 ⟨rfl, rfl⟩
  go_wp2
  go_returns
  exact ⟨rfl, (Below.refl _ _)⟩
set_option maxRecDepth 20000 in
theorem Score_ref (bv : Nat) (s : ByteArray) (w : World) (h : Not 171 (.nilIface) bv w) : Calls Tryz.prog 119 #[.pointer (some ⟨bv, 0, none⟩), .string s] w fun e w' => e = .returned (.tuple #[.int .i64 0, .bool false, .int .i64 4]) ∧ Below w.heap.size w w' := by
  have H : Hid (∀ W, Below w.heap.size w W → Calls Tryz.prog 171 #[.pointer (some ⟨bv, 0, none⟩)] W fun e w' => e = .returned (.tuple #[.nilIface, .int .i64 4]) ∧ w' = W) := h
  clear h
  go_enter Tryz.func119, Tryz.ntmps119
  go_wp2_with fail
  refine (show Calls _ _ _ _ _ from H.out _ (Below.refl _ _)).mono ?_
  rintro e w2 ⟨rfl, rfl⟩
  go_wp2
  go_returns
  exact ⟨rfl, (Below.refl _ _)⟩
set_option maxRecDepth 20000 in
theorem Rank_ref (bv : Nat) (s : ByteArray) (bk : Bool) (w : World) (h : Not 171 (.nilIface) bv w) : Calls Tryz.prog 121 #[.pointer (some ⟨bv, 0, none⟩), .string s, .bool bk] w fun e w' => e = .returned (.tuple #[.int .i64 0, .bool false, .int .i64 4]) ∧ Below w.heap.size w w' := by
  have H : Hid (∀ W, Below w.heap.size w W → Calls Tryz.prog 171 #[.pointer (some ⟨bv, 0, none⟩)] W fun e w' => e = .returned (.tuple #[.nilIface, .int .i64 4]) ∧ w' = W) := h
  clear h
  go_enter Tryz.func121, Tryz.ntmps121
  go_wp2_with fail
  refine (show Calls _ _ _ _ _ from H.out _ (Below.refl _ _)).mono ?_
  rintro e w2 ⟨rfl, rfl⟩
  go_wp2
  go_returns
  exact ⟨rfl, (Below.refl _ _)⟩
set_option maxRecDepth 20000 in
theorem ByRank_ref (bv : Nat) (i n : Int) (bk : Bool) (w : World) (h : Not 171 (.nilIface) bv w) : Calls Tryz.prog 123 #[.pointer (some ⟨bv, 0, none⟩), .int .i64 i, .int .i64 n, .bool bk] w fun e w' => e = .returned (.tuple #[.slice none 0 0, .int .i64 4]) ∧ Below w.heap.size w w' := by
  have H : Hid (∀ W, Below w.heap.size w W → Calls Tryz.prog 171 #[.pointer (some ⟨bv, 0, none⟩)] W fun e w' => e = .returned (.tuple #[.nilIface, .int .i64 4]) ∧ w' = W) := h
  clear h
  go_enter Tryz.func123, Tryz.ntmps123
  go_wp2_with fail
  refine (show Calls _ _ _ _ _ from H.out _ (Below.refl _ _)).mono ?_
  rintro e w2 ⟨rfl, rfl⟩
  go_wp2
  go_returns
  exact ⟨rfl, (Below.refl _ _)⟩
set_option maxRecDepth 20000 in
theorem ByScore_ref (bv : Nat) (i n : Int) (bk : Bool) (w : World) (h : Not 171 (.nilIface) bv w) : Calls Tryz.prog 126 #[.pointer (some ⟨bv, 0, none⟩), .agg #[.int .i64 0, .int .i64 0, .bool false], .agg #[.int .i64 0, .int .i64 0, .bool false], .bool bk, .int .i64 i, .int .i64 n] w fun e w' => e = .returned (.tuple #[.slice none 0 0, .int .i64 4]) ∧ Below w.heap.size w w' := by
  have H : Hid (∀ W, Below w.heap.size w W → Calls Tryz.prog 171 #[.pointer (some ⟨bv, 0, none⟩)] W fun e w' => e = .returned (.tuple #[.nilIface, .int .i64 4]) ∧ w' = W) := h
  clear h
  go_enter Tryz.func126, Tryz.ntmps126
  go_wp2_with fail
  refine (show Calls _ _ _ _ _ from H.out _ (((Below.refl _ _).alloc (Nat.le_refl _) _).alloc (by simp) _)).mono ?_
  rintro e w2 ⟨rfl, rfl⟩
  go_wp2
  go_returns
  exact ⟨rfl, (((Below.refl _ _).alloc (Nat.le_refl _) _).alloc (by simp) _)⟩
set_option maxRecDepth 20000 in
theorem ByLex_ref (bv : Nat) (i n : Int) (bk : Bool) (w : World) (h : Not 171 (.nilIface) bv w) : Calls Tryz.prog 128 #[.pointer (some ⟨bv, 0, none⟩), .agg #[.string ⟨#[]⟩, .int .i64 0, .bool false], .agg #[.string ⟨#[]⟩, .int .i64 0, .bool false], .bool bk, .int .i64 i, .int .i64 n] w fun e w' => e = .returned (.tuple #[.slice none 0 0, .int .i64 4]) ∧ Below w.heap.size w w' := by
  have H : Hid (∀ W, Below w.heap.size w W → Calls Tryz.prog 171 #[.pointer (some ⟨bv, 0, none⟩)] W fun e w' => e = .returned (.tuple #[.nilIface, .int .i64 4]) ∧ w' = W) := h
  clear h
  go_enter Tryz.func128, Tryz.ntmps128
  go_wp2_with fail
  refine (show Calls _ _ _ _ _ from H.out _ (((Below.refl _ _).alloc (Nat.le_refl _) _).alloc (by simp) _)).mono ?_
  rintro e w2 ⟨rfl, rfl⟩
  go_wp2
  go_returns
  exact ⟨rfl, (((Below.refl _ _).alloc (Nat.le_refl _) _).alloc (by simp) _)⟩
set_option maxRecDepth 20000 in
theorem Scan_ref (bv : Nat) (i n : Int) (w : World) (h : Not 191 (.nilIface) bv w) : Calls Tryz.prog 130 #[.pointer (some ⟨bv, 0, none⟩), .int .i64 i, .int .i64 n] w fun e w' => e = .returned (.tuple #[.slice none 0 0, .int .i64 0, .int .i64 4]) ∧ Below w.heap.size w w' := by
  have H : Hid (∀ W, Below w.heap.size w W → Calls Tryz.prog 191 #[.pointer (some ⟨bv, 0, none⟩)] W fun e w' => e = .returned (.tuple #[.nilIface, .int .i64 4]) ∧ w' = W) := h
  clear h
  go_enter Tryz.func130, Tryz.ntmps130
  go_wp2_with fail
  refine (show Calls _ _ _ _ _ from H.out _ (Below.refl _ _)).mono ?_
  rintro e w2 ⟨rfl, rfl⟩
  go_wp2
  go_returns
  exact ⟨rfl, (Below.refl _ _)⟩
end Go.Proofs.YtfkcpilkhdbpoaaGreatDoor.V
namespace Go.Proofs.YtfkcpilkhdbpoaaGreatDoor.V
open Go.RowKit S5.IM
open S6 (Laid Lay)
set_option linter.unusedVariables false
set_option linter.unusedSimpArgs false
set_option maxHeartbeats 1000000 in
set_option maxRecDepth 20000 in
theorem Kind_any (bv : Nat) (k : Int) (b : Value) (w : World) (h : w.heap[bv]? = some (vC k b)) : Calls Tryz.prog 42 #[.pointer (some ⟨bv, 0, none⟩)] w fun e w' => e = .returned (.int .i64 k) ∧ Below w.heap.size w w' := by
  unfold vC at *
  obtain ⟨c0, c1, cf⟩ := prow2 h
  clear h
  go_enter Tryz.func42, Tryz.ntmps42
  go_wp2
  go_returns
  exact ⟨rfl, Below.refl _ _⟩
set_option maxHeartbeats 1000000 in
set_option maxRecDepth 20000 in
theorem own_nil (w : World) : Calls Tryz.prog 113 #[.string ⟨#[]⟩] w fun e w' => e = .returned (.string ⟨#[]⟩) ∧ Below w.heap.size w w' := by
  have HC : Hid _ := S8.clone_any ⟨#[]⟩ (by decide) w
  go_enter Tryz.func113, Tryz.ntmps113
  go_wp2_with fail
  refine (show Calls _ _ _ _ _ from HC.out).mono ?_
  rintro e w2 ⟨rfl, hb2⟩
  have HB2 : Hid _ := hb2
  clear hb2
  go_wp2
  go_ret
  exact ⟨rfl, HB2.out⟩
set_option maxHeartbeats 1000000 in
set_option maxRecDepth 20000 in
theorem Text_of (bv : Nat) (c : Int) (w : World) (h : ∀ W, Below w.heap.size w W → Calls Tryz.prog 75 #[.pointer (some ⟨bv, 0, none⟩)] W fun e w' => e = .returned (.tuple #[.string ⟨#[]⟩, .int .i64 c]) ∧ w' = W) : Calls Tryz.prog 49 #[.pointer (some ⟨bv, 0, none⟩)] w fun e w' => e = .returned (.tuple #[.string ⟨#[]⟩, .int .i64 c]) ∧ Below w.heap.size w w' := by
  have HA : Hid _ := h w (Below.refl _ _)
  have HO : Hid _ := own_nil w
  clear h
  go_enter Tryz.func49, Tryz.ntmps49
  go_wp2_with fail
  refine (show Calls _ _ _ _ _ from HA.out).mono ?_
  rintro e w1 ⟨rfl, rfl⟩
  go_wp2_with fail
  refine (show Calls _ _ _ _ _ from HO.out).mono ?_
  rintro e w2 ⟨rfl, hb2⟩
  have HB2 : Hid _ := hb2
  clear hb2
  go_wp2
  go_ret2
  exact ⟨rfl, HB2.out⟩
set_option maxHeartbeats 1000000 in
set_option maxRecDepth 20000 in
theorem tenc_nil (w : World) (hL : Laid w) : Calls Tryz.prog 475 #[.string ⟨#[]⟩] w fun e w' => e = .returned (.string ⟨#[101, 109, 98, 115, 116, 114]⟩) ∧ Below w.heap.size w w' := by
  have HN : Hid (Calls Tryz.prog 309 #[.string ⟨#[]⟩] w fun e w' => e = .returned (.tuple #[.int .i64 0, .bool false]) ∧ Below w.heap.size w w') := (S6.number_any ⟨#[]⟩ (by decide) w hL)
  clear hL
  go_enter Tryz.func475, Tryz.ntmps475
  go_wp2_with fail
  refine (show Calls _ _ _ _ _ from HN.out).mono ?_
  rintro e w2 ⟨rfl, hb2⟩
  have HB2 : Hid _ := hb2
  clear hb2
  go_wp2
  go_ret
  exact ⟨rfl, HB2.out⟩
set_option maxHeartbeats 1000000 in
set_option maxRecDepth 20000 in
theorem Enc_tx (bv : Nat) (k : Int) (w : World) (hL : Laid w) (h : w.heap[bv]? = some (vC k (txB ⟨#[]⟩))) : Calls Tryz.prog 24 #[.pointer (some ⟨bv, 0, none⟩)] w fun e w' => e = .returned (.string ⟨#[101, 109, 98, 115, 116, 114]⟩) ∧ Below w.heap.size w w' := by
  have HE : Hid _ := tenc_nil w hL
  unfold vC txB at *
  obtain ⟨c0, c1, cf⟩ := prow2 h
  clear h hL
  go_enter Tryz.func24, Tryz.ntmps24
  go_wp2_with fail
  refine (show Calls _ _ _ _ _ from HE.out).mono ?_
  rintro e w2 ⟨rfl, hb2⟩
  have HB2 : Hid _ := hb2
  clear hb2
  go_wp2
  go_ret
  exact ⟨rfl, HB2.out⟩
set_option maxHeartbeats 1000000 in
set_option maxRecDepth 20000 in
theorem Len_tx (bv : Nat) (k : Int) (w : World) (h : w.heap[bv]? = some (vC k (txB ⟨#[]⟩))) : Calls Tryz.prog 25 #[.pointer (some ⟨bv, 0, none⟩)] w fun e w' => e = .returned (.int .i64 0) ∧ Below w.heap.size w w' := by
  unfold vC txB at *
  obtain ⟨c0, c1, cf⟩ := prow2 h
  clear h
  go_enter Tryz.func25, Tryz.ntmps25
  go_wp2
  go_returns
  exact ⟨rfl, Below.refl _ _⟩
set_option maxRecDepth 20000 in
theorem each_any (k : Int) (hk : 1 ≤ k ∧ k ≤ 5) (w : World) : Calls Tryz.prog 107 #[.int .i64 k] w fun e w' => e = .returned (.int .i64 (if k = 1 then 0 else if k ≤ 3 then 16 else if k = 4 then 24 else 32)) ∧ Below w.heap.size w w' := by
  have : k = 1 ∨ k = 2 ∨ k = 3 ∨ k = 4 ∨ k = 5 := by omega
  rcases this with rfl | rfl | rfl | rfl | rfl
  all_goals
    go_enter Tryz.func107, Tryz.ntmps107
    go_wp2
    go_returns
    exact ⟨rfl, Below.refl _ _⟩
set_option maxRecDepth 20000 in
theorem tbytes_nil (w : World) : Calls Tryz.prog 472 #[.string ⟨#[]⟩] w fun e w' => e = .returned (.int .i64 0) ∧ Below w.heap.size w w' := by
  go_enter Tryz.func472, Tryz.ntmps472
  go_wp2
  go_returns
  exact ⟨rfl, Below.refl _ _⟩
set_option maxRecDepth 20000 in
theorem tcount_nil (w : World) : Calls Tryz.prog 474 #[.string ⟨#[]⟩] w fun e w' => e = .returned (.int .i64 0) ∧ Below w.heap.size w w' := by
  go_enter Tryz.func474, Tryz.ntmps474
  go_wp2
  go_returns
  exact ⟨rfl, Below.refl _ _⟩
set_option maxHeartbeats 1000000 in
set_option maxRecDepth 20000 in
theorem Size_tx (bv : Nat)  (w : World) (h : w.heap[bv]? = some (vC 1 (txB ⟨#[]⟩)))  : Calls Tryz.prog 45 #[.pointer (some ⟨bv, 0, none⟩)] w fun e w' => e = .returned (.int .i64 48) ∧ Below w.heap.size w w' := by
  have HBY : Hid (∀ W, Below w.heap.size w W → Calls Tryz.prog 472 #[.string ⟨#[]⟩] W fun e w' => e = .returned (.int .i64 0) ∧ Below W.heap.size W w') := fun W hW => tbytes_nil W
  have HCO : Hid (∀ W, Below w.heap.size w W → Calls Tryz.prog 474 #[.string ⟨#[]⟩] W fun e w' => e = .returned (.int .i64 0) ∧ Below W.heap.size W w') := fun W hW => tcount_nil W
  have HEA : Hid _ := each_any
  have HKS : Hid (∀ W, Below w.heap.size w W → W.cell? ⟨bv, 0, none⟩ = some (.int .i64 1) ∧ W.cell? ⟨bv, 1, none⟩ = some (txB ⟨#[]⟩)) := fun W hW => by
    have hk := keep_row h hW
    unfold vC at hk
    obtain ⟨c0, c1, cf⟩ := prow2 hk
    exact ⟨c0, c1⟩
  clear h
  have hcur : Below w.heap.size w w.drew := (Below.refl _ w).drew
  unfold txB at *
  go_enter Tryz.func45, Tryz.ntmps45
  go_wp2_with fail
  go_region_held3 (fun W : World => W.cell? ⟨bv, 0, none⟩ = some (.int .i64 1) ∧ W.cell? ⟨bv, 1, none⟩ = some (.iface 64 (.string ⟨#[]⟩)))
    (exact HKS.out _ hcur)
    (first
      | (go_at_call 472; refine (show Calls _ _ _ _ _ from HBY.out _ hcur).mono ?_; rintro e a1 ⟨rfl, hb1⟩; have hcur := hcur.trans (hb1.mono hcur.size))
      | (go_at_call 474; refine (show Calls _ _ _ _ _ from HCO.out _ hcur).mono ?_; rintro e a1 ⟨rfl, hb1⟩; have hcur := hcur.trans (hb1.mono hcur.size))
      | (go_at_call 107; refine (show Calls _ _ _ _ _ from HEA.out _ (by omega) _).mono ?_; rintro e a1 ⟨rfl, hb1⟩; have hcur := hcur.trans (hb1.mono hcur.size)))
  go_wp2
  go_ret
  exact ⟨by first | kernel_rfl | (simp; kernel_rfl), hcur⟩
set_option maxHeartbeats 1000000 in
set_option maxRecDepth 20000 in
theorem traw_nil (w : World) : Calls Tryz.prog 476 #[.string ⟨#[]⟩] w fun e w' => ∃ g, e = .returned (.slice (some ⟨g, 0, none⟩) 1 1) ∧ w'.cell? ⟨g, 0, none⟩ = some (.string ⟨#[]⟩) ∧ Below w.heap.size w w' := by
  have HC : Hid _ := own_nil w
  go_enter Tryz.func476, Tryz.ntmps476
  go_wp2_with fail
  refine (show Calls _ _ _ _ _ from HC.out).mono ?_
  rintro e w2 ⟨rfl, hb2⟩
  have HB2 : Hid _ := hb2
  clear hb2
  go_wp2
  go_returns
  exact ⟨_, rfl, cell_of_row _ _ _ _ _ _ (one_alloc _ _), HB2.out.alloc HB2.out.size _⟩
set_option maxHeartbeats 1000000 in
set_option maxRecDepth 20000 in
theorem Raw_tx (bv : Nat) (k : Int) (w : World) (h : w.heap[bv]? = some (vC k (txB ⟨#[]⟩))) : Calls Tryz.prog 47 #[.pointer (some ⟨bv, 0, none⟩)] w fun e w' => ∃ g, e = .returned (.slice (some ⟨g, 0, none⟩) 1 1) ∧ w'.cell? ⟨g, 0, none⟩ = some (.string ⟨#[]⟩) ∧ Below w.heap.size w w' := by
  have HE : Hid _ := traw_nil w
  unfold vC txB at *
  obtain ⟨c0, c1, cf⟩ := prow2 h
  clear h
  go_enter Tryz.func47, Tryz.ntmps47
  go_wp2_with fail
  refine (show Calls _ _ _ _ _ from HE.out).mono ?_
  rintro e w2 ⟨g, rfl, hc, hb2⟩
  have HB2 : Hid (w2.cell? ⟨g, 0, none⟩ = some (.string ⟨#[]⟩) ∧ Below w.heap.size w w2) := ⟨hc, hb2⟩
  clear hb2 hc
  go_wp2
  go_ret
  exact ⟨g, rfl, HB2.out⟩
set_option maxHeartbeats 1000000 in
set_option maxRecDepth 20000 in
theorem New_str (t : TH) (ht : okT t = true) (w : World) : Calls Tryz.prog 7 #[.int .i64 1, thV t] w fun e w' => ∃ bv, e = .returned (.tuple #[.pointer (some ⟨bv, 0, none⟩), .int .i64 0]) ∧ w.heap.size ≤ bv ∧ w'.heap[bv]? = some (vC 1 (txB ⟨#[]⟩)) ∧ Below w.heap.size w w' := by
  have HCK : Hid (∀ W, Calls Tryz.prog 4 #[thV t] W fun e w' => e = .returned (.int .i64 0) ∧ Below W.heap.size W w') := fun W => by have := Check_any t W; rw [if_pos ht] at this; exact this
  clear ht
  obtain ⟨a, b, c, d, e, f, g, h, i⟩ := t
  unfold thV at *
  simp only [] at *
  obtain ⟨W1, hW1⟩ : ∃ W, W = w.alloc (.cells #[.int .i64 a, .int .i64 b, .int .i64 c, .int .i64 d, .int .i64 e, .int .i64 f, .int .i64 g, .int .i64 h, .int .i64 i] 23) := ⟨_, rfl⟩
  have HB : Hid (Below w.heap.size w W1) := by rw [hW1]; exact (Below.refl _ _).alloc (Nat.le_refl _) _
  go_enter Tryz.func7, Tryz.ntmps7
  go_wp2_with fail
  rw [← hW1]
  refine (show Calls _ _ _ _ _ from HCK.out _).mono ?_
  rintro e w2 ⟨rfl, hb2⟩
  have HB2 : Hid (Below w.heap.size w w2) := HB.out.trans (hb2.mono HB.out.size)
  clear hb2 hW1
  go_wp2
  go_returns
  exact ⟨w2.heap.size, rfl, HB2.out.size, one_alloc _ _, HB2.out.alloc HB2.out.size _⟩
set_option maxHeartbeats 1000000 in
set_option maxRecDepth 20000 in
theorem New_bad (k : Int) (t : TH) (ht : okT t = false) (w : World) : Calls Tryz.prog 7 #[.int .i64 k, thV t] w fun e w' => e = .returned (.tuple #[.pointer none, .int .i64 1]) ∧ Below w.heap.size w w' := by
  have HCK : Hid (∀ W, Calls Tryz.prog 4 #[thV t] W fun e w' => e = .returned (.int .i64 1) ∧ Below W.heap.size W w') := fun W => by have := Check_any t W; rw [ht] at this; exact this
  clear ht
  obtain ⟨a, b, c, d, e, f, g, h, i⟩ := t
  unfold thV at *
  simp only [] at *
  obtain ⟨W1, hW1⟩ : ∃ W, W = w.alloc (.cells #[.int .i64 a, .int .i64 b, .int .i64 c, .int .i64 d, .int .i64 e, .int .i64 f, .int .i64 g, .int .i64 h, .int .i64 i] 23) := ⟨_, rfl⟩
  have HB : Hid (Below w.heap.size w W1) := by rw [hW1]; exact (Below.refl _ _).alloc (Nat.le_refl _) _
  go_enter Tryz.func7, Tryz.ntmps7
  go_wp2_with fail
  rw [← hW1]
  refine (show Calls _ _ _ _ _ from HCK.out _).mono ?_
  rintro e w2 ⟨rfl, hb2⟩
  have HB2 : Hid (Below w.heap.size w w2) := HB.out.trans (hb2.mono HB.out.size)
  clear hb2 hW1
  go_wp2
  go_returns
  exact ⟨rfl, HB2.out⟩
set_option maxHeartbeats 1000000 in
set_option maxRecDepth 20000 in
theorem New_kind (k : Int) (hk : ¬ (1 ≤ k ∧ k ≤ 5)) (t : TH) (ht : okT t = true) (w : World) : Calls Tryz.prog 7 #[.int .i64 k, thV t] w fun e w' => e = .returned (.tuple #[.pointer none, .int .i64 1]) ∧ Below w.heap.size w w' := by
  have HCK : Hid (∀ W, Calls Tryz.prog 4 #[thV t] W fun e w' => e = .returned (.int .i64 0) ∧ Below W.heap.size W w') := fun W => by have := Check_any t W; rw [if_pos ht] at this; exact this
  have k1 : (k == 1) = false := by rw [beq_eq_false_iff_ne]; omega
  have k2 : (k == 2) = false := by rw [beq_eq_false_iff_ne]; omega
  have k3 : (k == 3) = false := by rw [beq_eq_false_iff_ne]; omega
  have k4 : (k == 4) = false := by rw [beq_eq_false_iff_ne]; omega
  have k5 : (k == 5) = false := by rw [beq_eq_false_iff_ne]; omega
  clear ht hk
  obtain ⟨a, b, c, d, e, f, g, h, i⟩ := t
  unfold thV at *
  simp only [] at *
  obtain ⟨W1, hW1⟩ : ∃ W, W = w.alloc (.cells #[.int .i64 a, .int .i64 b, .int .i64 c, .int .i64 d, .int .i64 e, .int .i64 f, .int .i64 g, .int .i64 h, .int .i64 i] 23) := ⟨_, rfl⟩
  have HB : Hid (Below w.heap.size w W1) := by rw [hW1]; exact (Below.refl _ _).alloc (Nat.le_refl _) _
  go_enter Tryz.func7, Tryz.ntmps7
  go_wp2_with fail
  rw [← hW1]
  refine (show Calls _ _ _ _ _ from HCK.out _).mono ?_
  rintro e w2 ⟨rfl, hb2⟩
  have HB2 : Hid (Below w.heap.size w w2) := HB.out.trans (hb2.mono HB.out.size)
  clear hb2 hW1
  go_wp2
  go_returns
  exact ⟨rfl, HB2.out⟩
end Go.Proofs.YtfkcpilkhdbpoaaGreatDoor.V
namespace Go.Proofs.YtfkcpilkhdbpoaaGreatDoor.V
open Go.RowKit S5.IM
open S6 (Laid Lay)
set_option linter.unusedVariables false
set_option linter.unusedSimpArgs false
set_option maxHeartbeats 1000000 in
set_option maxRecDepth 20000 in
theorem ishas_nil (b : Nat) (m n s z x : Int) (p : ByteArray) (w : World) (hL : Laid w) (hb : w.heap[b]? = some (isC m n s p z x)) : Calls Tryz.prog 491 #[.pointer (some ⟨b, 0, none⟩), .string ⟨#[]⟩] w fun e w' => e = .returned (.bool false) ∧ Below w.heap.size w w' := by
  have HN : Hid (Calls Tryz.prog 309 #[.string ⟨#[]⟩] w fun e w' => e = .returned (.tuple #[.int .i64 0, .bool false]) ∧ Below w.heap.size w w') := (S6.number_any ⟨#[]⟩ (by decide) w hL)
  clear hL hb
  go_enter Tryz.func491, Tryz.ntmps491
  go_wp2_with fail
  refine (show Calls _ _ _ _ _ from HN.out).mono ?_
  rintro e w2 ⟨rfl, hb2⟩
  have HB2 : Hid _ := hb2
  clear hb2
  go_wp2
  go_ret
  exact ⟨rfl, HB2.out⟩
set_option maxHeartbeats 1000000 in
set_option maxRecDepth 20000 in
theorem Has_is (bv b : Nat) (m n s z x : Int) (p : ByteArray) (w : World) (hL : Laid w) (hv : w.heap[bv]? = some (vC 3 (isB b))) (hb : w.heap[b]? = some (isC m n s p z x)) : Calls Tryz.prog 21 #[.pointer (some ⟨bv, 0, none⟩), .string ⟨#[]⟩] w fun e w' => e = .returned (.tuple #[.bool false, .int .i64 0]) ∧ Below w.heap.size w w' := by
  have HAS : Hid _ := asSet_ok bv b w hv
  have HH : Hid _ := ishas_nil b m n s z x p w hL hb
  clear hb hL hv
  go_enter Tryz.func21, Tryz.ntmps21
  go_wp2_with fail
  refine (show Calls _ _ _ _ _ from HAS.out).mono ?_
  rintro e w1 ⟨rfl, rfl⟩
  unfold isB
  go_wp2_with fail
  refine (show Calls _ _ _ _ _ from HH.out).mono ?_
  rintro e w2 ⟨rfl, hb2⟩
  have HB2 : Hid _ := hb2
  clear hb2
  go_wp2
  go_ret2
  exact ⟨rfl, HB2.out⟩
set_option maxHeartbeats 1000000 in
set_option maxRecDepth 20000 in
theorem isnames_nil (b : Nat) (m n s z x : Int) (w : World) (hL : Laid w) (hb : w.heap[b]? = some (isC m n s (S5.strB (txt 2 [])) z x)) : Calls Tryz.prog 236 #[.pointer (some ⟨b, 0, none⟩)] w fun e w' => ∃ q c, e = .returned (.slice q 0 c) ∧ Below w.heap.size w w' := by
  have HNU : Hid _ := numbers_any b m n s z x _ 2 [] set_nil w hb
  have HD : Hid (∀ g W, Laid W → Calls Tryz.prog 300 #[.slice (some ⟨g, 0, none⟩) 0 0] W fun e w' => ∃ v', e = .returned v' ∧ SRow w' v' [] ∧ Below W.heap.size W w') := fun g W hW => digits_row (.slice (some ⟨g, 0, none⟩) 0 0) [] (by simp) (by simp) W hW ⟨_, _, rfl, fun h => absurd rfl h⟩
  have HL : Hid _ := hL
  clear hb hL
  go_enter Tryz.func236, Tryz.ntmps236
  go_wp2_with fail
  refine (show Calls _ _ _ _ _ from HNU.out).mono ?_
  rintro e w1 ⟨g, rfl, hc, hb1⟩
  have HB1 : Hid (Below w.heap.size w w1) := hb1
  clear hc hb1
  go_wp2_with fail
  refine (show Calls _ _ _ _ _ from HD.out _ _ (HL.out.on HB1.out)).mono ?_
  rintro e w2 ⟨v2, rfl, hs, hb2⟩
  obtain ⟨q, c, rfl⟩ := hs.form
  have HB2 : Hid (Below w.heap.size w w2) := HB1.out.trans (hb2.mono HB1.out.size)
  clear hb2 hs
  go_wp2
  go_ret
  exact ⟨_, _, rfl, HB2.out⟩
set_option maxHeartbeats 1000000 in
set_option maxRecDepth 20000 in
theorem Sort_nil (q : Option Addr) (c : Nat) (w : World) : Calls Tryz.prog 183 #[.slice q 0 c] w fun e w' => e = .returned (.tuple #[]) ∧ Below w.heap.size w w' := (Tryz.slices_Sort_string_none q c w).mono (by
  rintro e w' ⟨rfl, rfl⟩
  exact ⟨rfl, Below.refl _ _⟩)
set_option maxHeartbeats 1000000 in
set_option maxRecDepth 20000 in
theorem rising_is (b : Nat) (m n s z x : Int) (w : World) (hL : Laid w) (hb : w.heap[b]? = some (isC m n s (S5.strB (txt 2 [])) z x)) : Calls Tryz.prog 117 #[isB b] w fun e w' => ∃ q c, e = .returned (.slice q 0 c) ∧ Below w.heap.size w w' := by
  have HN : Hid _ := isnames_nil b m n s z x w hL hb
  clear hb hL
  unfold isB
  go_enter Tryz.func117, Tryz.ntmps117
  go_wp2_with fail
  refine (show Calls _ _ _ _ _ from HN.out).mono ?_
  rintro e w1 ⟨q, c, rfl, hb1⟩
  have HB1 : Hid (Below w.heap.size w w1) := hb1
  clear hb1
  go_wp2_with fail
  refine (show Calls _ _ _ _ _ from Sort_nil _ _ _).mono ?_
  rintro e w2 ⟨rfl, hb2⟩
  have HB2 : Hid (Below w.heap.size w w2) := HB1.out.trans (hb2.mono HB1.out.size)
  clear hb2
  go_wp2
  go_ret
  exact ⟨_, _, rfl, HB2.out⟩
set_option maxHeartbeats 1000000 in
set_option maxRecDepth 20000 in
theorem Members_is (bv b : Nat) (m n s z x : Int) (w : World) (hL : Laid w) (hv : w.heap[bv]? = some (vC 3 (isB b))) (hb : w.heap[b]? = some (isC m n s (S5.strB (txt 2 [])) z x)) : Calls Tryz.prog 56 #[.pointer (some ⟨bv, 0, none⟩)] w fun e w' => ∃ q c, e = .returned (.tuple #[.slice q 0 c, .int .i64 0]) ∧ Below w.heap.size w w' := by
  have HAS : Hid _ := asSet_ok bv b w hv
  have HH : Hid _ := rising_is b m n s z x w hL hb
  clear hb hL hv
  go_enter Tryz.func56, Tryz.ntmps56
  go_wp2_with fail
  refine (show Calls _ _ _ _ _ from HAS.out).mono ?_
  rintro e w1 ⟨rfl, rfl⟩
  unfold isB at *
  go_wp2_with fail
  refine (show Calls _ _ _ _ _ from HH.out).mono ?_
  rintro e w2 ⟨q, c, rfl, hb2⟩
  have HB2 : Hid _ := hb2
  clear hb2
  go_wp2
  go_ret2
  exact ⟨_, _, rfl, HB2.out⟩
set_option maxHeartbeats 1000000 in
set_option maxRecDepth 20000 in
theorem isscan_nil (b : Nat) (i j m n s z x : Int) (w : World) (hL : Laid w) (hb : w.heap[b]? = some (isC m n s (S5.strB (txt 2 [])) z x)) : Calls Tryz.prog 494 #[.pointer (some ⟨b, 0, none⟩), .int .i64 i, .int .i64 j] w fun e w' => ∃ q c, e = .returned (.tuple #[.slice q 0 c, .int .i64 0]) ∧ Below w.heap.size w w' := by
  have HN : Hid _ := isnames_nil b m n s z x w hL hb
  clear hb hL
  go_enter Tryz.func494, Tryz.ntmps494
  go_wp2_with fail
  refine (show Calls _ _ _ _ _ from HN.out).mono ?_
  rintro e w1 ⟨q, c, rfl, hb1⟩
  have HB1 : Hid (Below w.heap.size w w1) := hb1
  clear hb1
  go_wp2
  go_ret2
  exact ⟨_, _, rfl, HB1.out⟩
set_option maxHeartbeats 1000000 in
set_option maxRecDepth 20000 in
theorem Scan_is (bv b : Nat) (i j m n s z x : Int) (w : World) (hL : Laid w) (hv : w.heap[bv]? = some (vC 3 (isB b))) (hb : w.heap[b]? = some (isC m n s (S5.strB (txt 2 [])) z x)) : Calls Tryz.prog 130 #[.pointer (some ⟨bv, 0, none⟩), .int .i64 i, .int .i64 j] w fun e w' => ∃ q c, e = .returned (.tuple #[.slice q 0 c, .int .i64 0, .int .i64 0]) ∧ Below w.heap.size w w' := by
  have HAS : Hid _ := asGroup_is bv 3 b w hv
  have HH : Hid _ := isscan_nil b i j m n s z x w hL hb
  clear hb hL hv
  go_enter Tryz.func130, Tryz.ntmps130
  go_wp2_with fail
  refine (show Calls _ _ _ _ _ from HAS.out).mono ?_
  rintro e w1 ⟨rfl, rfl⟩
  unfold isB at *
  go_wp2_with fail
  refine (show Calls _ _ _ _ _ from HH.out).mono ?_
  rintro e w2 ⟨q, c, rfl, hb2⟩
  have HB2 : Hid _ := hb2
  clear hb2
  go_wp2
  go_returns
  exact ⟨_, _, rfl, HB2.out⟩
set_option maxHeartbeats 1000000 in
set_option maxRecDepth 20000 in
theorem israw (b : Nat) (m n s z x : Int) (p : ByteArray) (hp : p.size ≤ 1000) (w : World) (hb : w.heap[b]? = some (isC m n s p z x)) : Calls Tryz.prog 493 #[.pointer (some ⟨b, 0, none⟩)] w fun e w' => ∃ g, e = .returned (.slice (some ⟨g, 0, none⟩) 1 1) ∧ w'.cell? ⟨g, 0, none⟩ = some (.string p) ∧ Below w.heap.size w w' := by
  have HC : Hid _ := S8.clone_any p (by omega) w
  unfold isC at hb
  obtain ⟨c0, c1, c2, c3, c4, c5, cf⟩ := row6 hb
  clear hb
  go_enter Tryz.func493, Tryz.ntmps493
  go_wp2_with fail
  refine (show Calls _ _ _ _ _ from HC.out).mono ?_
  rintro e w2 ⟨rfl, hb2⟩
  have HB2 : Hid _ := hb2
  clear hb2 c0 c1 c2 c3 c4 c5 cf
  go_wp2
  go_returns
  exact ⟨_, rfl, cell_of_row _ _ _ _ _ _ (one_alloc _ _), HB2.out.alloc HB2.out.size _⟩
theorem Raw_is (bv b : Nat) (k m n s z x : Int) (p : ByteArray) (hp : p.size ≤ 1000) (w : World) (h : w.heap[bv]? = some (vC k (isB b))) (hb : w.heap[b]? = some (isC m n s p z x)) : Calls Tryz.prog 47 #[.pointer (some ⟨bv, 0, none⟩)] w fun e w' => ∃ g, e = .returned (.slice (some ⟨g, 0, none⟩) 1 1) ∧ w'.cell? ⟨g, 0, none⟩ = some (.string p) ∧ Below w.heap.size w w' := by
  have HE : Hid _ := israw b m n s z x p hp w hb
  unfold vC isB at *
  obtain ⟨c0, c1, cf⟩ := prow2 h
  clear h hb
  go_enter Tryz.func47, Tryz.ntmps47
  go_wp2_with fail
  refine (show Calls _ _ _ _ _ from HE.out).mono ?_
  rintro e w2 ⟨g, rfl, hc, hb2⟩
  have HB2 : Hid (w2.cell? ⟨g, 0, none⟩ = some (.string p) ∧ Below w.heap.size w w2) := ⟨hc, hb2⟩
  clear hb2 hc
  go_wp2
  go_ret
  exact ⟨g, rfl, HB2.out⟩
set_option maxRecDepth 20000 in
theorem isbytes_nil (b : Nat) (m n s : Int) (p : ByteArray) (w : World) (hb : w.heap[b]? = some (isC m n s p 0 0)) : Calls Tryz.prog 486 #[.pointer (some ⟨b, 0, none⟩)] w fun e w' => e = .returned (.int .i64 0) ∧ Below w.heap.size w w' := by
  unfold isC at hb
  obtain ⟨c0, c1, c2, c3, c4, c5, cf⟩ := row6 hb
  clear hb
  go_enter Tryz.func486, Tryz.ntmps486
  go_wp2
  go_returns
  exact ⟨rfl, Below.refl _ _⟩
set_option maxRecDepth 20000 in
theorem iscount_nil (b : Nat) (m n s : Int) (p : ByteArray) (w : World) (hb : w.heap[b]? = some (isC m n s p 0 0)) : Calls Tryz.prog 488 #[.pointer (some ⟨b, 0, none⟩)] w fun e w' => e = .returned (.int .i64 0) ∧ Below w.heap.size w w' := by
  unfold isC at hb
  obtain ⟨c0, c1, c2, c3, c4, c5, cf⟩ := row6 hb
  clear hb
  go_enter Tryz.func488, Tryz.ntmps488
  go_wp2
  go_returns
  exact ⟨rfl, Below.refl _ _⟩
set_option maxHeartbeats 1000000 in
set_option maxRecDepth 20000 in
theorem Size_is (bv b : Nat) (m n s : Int) (p : ByteArray) (w : World) (h : w.heap[bv]? = some (vC 3 (isB b))) (hb : w.heap[b]? = some (isC m n s p 0 0)) : Calls Tryz.prog 45 #[.pointer (some ⟨bv, 0, none⟩)] w fun e w' => e = .returned (.int .i64 48) ∧ Below w.heap.size w w' := by
  have HBY : Hid (∀ W, Below w.heap.size w W → Calls Tryz.prog 486 #[.pointer (some ⟨b, 0, none⟩)] W fun e w' => e = .returned (.int .i64 0) ∧ Below W.heap.size W w') := fun W hW => isbytes_nil b m n s p W (keep_row hb hW)
  have HCO : Hid (∀ W, Below w.heap.size w W → Calls Tryz.prog 488 #[.pointer (some ⟨b, 0, none⟩)] W fun e w' => e = .returned (.int .i64 0) ∧ Below W.heap.size W w') := fun W hW => iscount_nil b m n s p W (keep_row hb hW)
  have HEA : Hid _ := each_any
  have HKS : Hid (∀ W, Below w.heap.size w W → W.cell? ⟨bv, 0, none⟩ = some (.int .i64 3) ∧ W.cell? ⟨bv, 1, none⟩ = some (isB b)) := fun W hW => by
    have hk := keep_row h hW
    unfold vC at hk
    obtain ⟨c0, c1, cf⟩ := prow2 hk
    exact ⟨c0, c1⟩
  clear h hb
  have hcur : Below w.heap.size w w.drew := (Below.refl _ w).drew
  unfold isB at *
  go_enter Tryz.func45, Tryz.ntmps45
  go_wp2_with fail
  go_region_held3 (fun W : World => W.cell? ⟨bv, 0, none⟩ = some (.int .i64 3) ∧ W.cell? ⟨bv, 1, none⟩ = some (.iface 67 (.pointer (some ⟨b, 0, none⟩))))
    (exact HKS.out _ hcur)
    (first
      | (go_at_call 486; refine (show Calls _ _ _ _ _ from HBY.out _ hcur).mono ?_; rintro e a1 ⟨rfl, hb1⟩; have hcur := hcur.trans (hb1.mono hcur.size))
      | (go_at_call 488; refine (show Calls _ _ _ _ _ from HCO.out _ hcur).mono ?_; rintro e a1 ⟨rfl, hb1⟩; have hcur := hcur.trans (hb1.mono hcur.size))
      | (go_at_call 107; refine (show Calls _ _ _ _ _ from HEA.out _ (by omega) _).mono ?_; rintro e a1 ⟨rfl, hb1⟩; have hcur := hcur.trans (hb1.mono hcur.size)))
  go_wp2
  go_ret
  exact ⟨by first | kernel_rfl | (simp; kernel_rfl), hcur⟩
end Go.Proofs.YtfkcpilkhdbpoaaGreatDoor.V
