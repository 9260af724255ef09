import Derived.Test.YtiefeeoellagnaaGreatDoorTT
import Derived.Deep.RegionHeld3
import Derived.Test.YtiefeeoellagnaaGreatDoorII
import Derived.Deep.Cut
namespace Go.Proofs.YtiefeeoellagnaaGreatDoor.V
open Go.RowKit
open S6 (Laid Lay)
set_option linter.unusedVariables false
set_option linter.unusedSimpArgs false
set_option maxHeartbeats 1000000 in
set_option maxRecDepth 20000 in
theorem tx_bytes (s:ByteArray) (w:World):Calls Tryz.prog 472 #[.string s] w fun e w'=>e=.returned (.int .i64 s.size)∧Below w.heap.size w w':=by
  go_enter Tryz.func472,Tryz.ntmps472
  go_wp2
  go_returns
  exact ⟨rfl,Below.refl _ _⟩
set_option maxHeartbeats 1000000 in
set_option maxRecDepth 20000 in
theorem tx_count (s:ByteArray) (w:World):Calls Tryz.prog 474 #[.string s] w fun e w'=>e=.returned (.int .i64 s.size)∧Below w.heap.size w w':=by
  go_enter Tryz.func474,Tryz.ntmps474
  go_wp2
  go_returns
  exact ⟨rfl,Below.refl _ _⟩
set_option maxHeartbeats 1000000 in
set_option maxRecDepth 20000 in
theorem tx_Size (bv:Nat) (s:ByteArray) (hs:s.size ≤ 524288) (w:World) (h:w.heap[bv]?=some (vC 1 (txB s))):Calls Tryz.prog 45 #[.pointer (some ⟨bv,0,none⟩)] w fun e w'=>e=.returned (.int .i64 (48 + s.size))∧Below w.heap.size w w':=by
  have HBY:Hid _:=tx_bytes s
  have HCO:Hid _:=tx_count s
  have HEA:Hid _:=each_any
  have HKS:Hid (∀ W,Below w.heap.size w W → W.cell? ⟨bv,0,none⟩=some (.int .i64 1)∧W.cell? ⟨bv,1,none⟩=some (.iface 62 (.string s))):=fun W hW=>by
    have hk:=keep_row h hW
    unfold vC txB at hk
    obtain ⟨c0,c1,cf⟩:=prow2 hk
    exact ⟨c0,c1⟩
  clear h
  have hcur:Below w.heap.size w w.drew:=(Below.refl _ w).drew
  go_enter Tryz.func45,Tryz.ntmps45
  go_wp2_with fail
  go_region_held3 (fun W:World=>W.cell? ⟨bv,0,none⟩=some (.int .i64 1)∧W.cell? ⟨bv,1,none⟩=some (.iface 62 (.string s)))
    (exact HKS.out _ hcur)
    (first
      | (go_at_call 472; refine (show Calls _ _ _ _ _ from HBY.out _).mono ?_; rintro e a1 ⟨rfl,hb1⟩; have hcur:=hcur.trans (hb1.mono hcur.size))
      | (go_at_call 474; refine (show Calls _ _ _ _ _ from HCO.out _).mono ?_; rintro e a1 ⟨rfl,hb1⟩; have hcur:=hcur.trans (hb1.mono hcur.size))
      | (go_at_call 107; refine (show Calls _ _ _ _ _ from HEA.out _ (by omega) _).mono ?_; rintro e a1 ⟨rfl,hb1⟩; have hcur:=hcur.trans (hb1.mono hcur.size)))
  go_wp2
  go_ret
  refine ⟨?_,hcur⟩
  show Ending.returned (.int .i64 _)=_
  congr 2
  simp [IntKind.wrap_i64]
  omega
set_option maxHeartbeats 1000000 in
set_option maxRecDepth 20000 in
theorem tx_clone (s:ByteArray) (hs:s.size ≤ 524288) (w:World):Calls Tryz.prog 473 #[.string s] w fun e w'=>e=.returned (txB s)∧Below w.heap.size w w':=by
  have HC:Hid _:=tx_own s hs w
  unfold txB
  clear hs
  go_enter Tryz.func473,Tryz.ntmps473
  go_wp2_with fail
  refine (show Calls _ _ _ _ _ from HC.out).mono ?_
  rintro e w2 ⟨rfl,hb2⟩
  have HB2:Hid _:=hb2
  clear hb2
  go_wp2
  go_ret
  exact ⟨rfl,HB2.out⟩
theorem tx_Clone (bv:Nat) (s:ByteArray) (hs:s.size ≤ 524288) (w:World) (h:w.heap[bv]?=some (vC 1 (txB s))):Calls Tryz.prog 8 #[.pointer (some ⟨bv,0,none⟩)] w fun e w'=>∃ b2,e=.returned (.pointer (some ⟨b2,0,none⟩))∧w.heap.size ≤ b2∧w'.heap[b2]?=some (vC 1 (txB s))∧Below w.heap.size w w':=by
  have HCL:Hid _:=tx_clone s hs
  have HKS:Hid (∀ W,Below w.heap.size w W → W.cell? ⟨bv,0,none⟩=some (.int .i64 1)∧W.cell? ⟨bv,1,none⟩=some (.iface 62 (.string s))):=fun W hW=>by
    have hk:=keep_row h hW
    unfold vC txB at hk
    obtain ⟨c0,c1,cf⟩:=prow2 hk
    exact ⟨c0,c1⟩
  clear h hs
  unfold txB at *
  have hcur:Below w.heap.size w w.drew:=(Below.refl _ w).drew
  go_enter Tryz.func8,Tryz.ntmps8
  go_wp2_with fail
  go_region_held3 (fun W:World=>W.cell? ⟨bv,0,none⟩=some (.int .i64 1)∧W.cell? ⟨bv,1,none⟩=some (.iface 62 (.string s)))
    (first | exact HKS.out _ hcur | exact HKS.out _ (hcur.alloc hcur.size _))
    (first
      | (go_at_call 473; refine (show Calls _ _ _ _ _ from HCL.out _).mono ?_; rintro e a1 ⟨rfl,hb1⟩; have hcur:=hcur.trans (hb1.mono hcur.size)))
  all_goals
    go_wp2
    go_returns
    exact ⟨_,rfl,hcur.size,one_alloc _ _,hcur.alloc hcur.size _⟩
end Go.Proofs.YtiefeeoellagnaaGreatDoor.V
namespace Go.Proofs.YtiefeeoellagnaaGreatDoor.V
open Go.RowKit
set_option linter.unusedVariables false
set_option linter.unusedSimpArgs false
set_option maxHeartbeats 4000000 in
set_option maxRecDepth 20000 in
theorem as_gen (bv:Nat) (C:Array Value) (k n z:Int) (en:ByteArray) (ts:List ByteArray) (ht:ts.length ≤ 1) (h25:C.size=25) (h0:C[0]?=some (.int .i64 k)) (w:World)
    (hK:Ans 42 #[.pointer (some ⟨bv,0,none⟩)] (.int .i64 k) w) (hE:Ans 24 #[.pointer (some ⟨bv,0,none⟩)] (.string en) w) (hL:Ans 25 #[.pointer (some ⟨bv,0,none⟩)] (.int .i64 n) w) (hS:Ans 45 #[.pointer (some ⟨bv,0,none⟩)] (.int .i64 z) w) (hR:AnsT 47 #[.pointer (some ⟨bv,0,none⟩)] ts w)
    (hE':Ans 43 #[.agg C] (.string en) w) (hL':Ans 44 #[.agg C] (.int .i64 n) w) (hS':Ans 46 #[.agg C] (.int .i64 z) w) (hR':AnsT 48 #[.agg C] ts w) :
    Calls Tryz.prog 10 #[.pointer (some ⟨bv,0,none⟩),.agg C] w fun e w'=>e=.returned (.bool true)∧Below w.heap.size w w':=by
  have HK:Hid _:=hK
  have HE:Hid _:=hE
  have HL:Hid _:=hL
  have HS:Hid _:=hS
  have HRw:Hid _:=hR
  have HE':Hid _:=hE'
  have HL':Hid _:=hL'
  have HS':Hid _:=hS'
  have HRw':Hid _:=hR'
  have hen:(en.toList == en.toList)=true:=by simp
  clear hK hE hL hS hR hE' hL' hS' hR'
  obtain ⟨W1,hW1⟩:∃ W1,W1=w.alloc (.cells C 42):=⟨_,rfl⟩
  obtain ⟨r,hr⟩:∃ r,w.heap.size=r:=⟨_,rfl⟩
  have HB:Hid (Below w.heap.size w W1):=by rw [hW1]; exact (Below.refl _ _).alloc (Nat.le_refl _) _
  have HR:Hid (W1.heap[r]?=some (.cells C 42)):=by rw [hW1,← hr]; exact one_alloc _ _
  have HRR:Hid (w.heap.size=r):=hr
  clear hr
  go_enter Tryz.func10,Tryz.ntmps10
  go_upto_region 1 with fail
  rw [← hW1,HRR.out]
  clear hW1
  have HKS:Hid (∀ W,Below W1.heap.size W1 W → W.cell? ⟨r,0,none⟩=some (.int .i64 k)∧W.rangeAt r 0 C.toList∧True):=fun W hW=>by
    exact ⟨(cellC (keep_row HR.out hW)).trans h0,fun j v hv=>by rw [cellC (keep_row HR.out hW)]; simpa using hv,trivial⟩
  have HUP:Hid (∀ W,Below W1.heap.size W1 W → Below w.heap.size w W):=fun W hW=>HB.out.trans (hW.mono HB.out.size)
  have hcur:Below W1.heap.size W1 W1.drew:=(Below.refl _ W1).drew
  refine wp_region_held_drew (S:=fun W:World=>W.cell? ⟨r,0,none⟩=some (.int .i64 k)∧W.rangeAt r 0 C.toList∧True) (by kernel_rfl) (HKS.out _ hcur) (fun hHeld=>?_)
  refine wpAnyH_take (i:=0) (oi:={ dst:=some 5,op:=Op.move (Operand.tmp 0),type:=27,pos:= "law.go:231",after:=#[],guard:=none }) (v:=.pointer (some ⟨bv,0,none⟩)) rfl (by kernel_rfl) (by kernel_rfl) (by kernel_rfl) (fun _ _ _ h=>h) (Or.inl ⟨by rfl,?y0⟩) (by assumption) ?z0
  case y0 =>
    intro w hSw
    (try dsimp only at hSw)
    first | (go_simp; done) | (go_simp; with_reducible rfl) | (go_simp; rfl)
  try simp only [Act.put,List.setIfInBounds_toArray,List.set_cons_zero,List.set_cons_succ]
  refine wpAnyH_take (i:=2) (oi:={ dst:=some 7,op:=Op.fieldAddr 42 (Operand.tmp 3) 0,type:=0,pos:= "law.go:231",after:=#[],guard:=none }) (v:=.pointer (some ⟨r,0,none⟩)) rfl (by kernel_rfl) (by kernel_rfl) (by kernel_rfl) (fun _ _ _ h=>h) (Or.inl ⟨by rfl,?y2⟩) (by assumption) ?z2
  case y2 =>
    intro w hSw
    (try dsimp only at hSw)
    first | (go_simp; done) | (go_simp; with_reducible rfl) | (go_simp; rfl)
  try simp only [Act.put,List.setIfInBounds_toArray,List.set_cons_zero,List.set_cons_succ]
  refine wpAnyH_take (i:=3) (oi:={ dst:=some 8,op:=Op.load 3 (Operand.tmp 7),type:=3,pos:= "law.go:231",after:=#[{ on:=2,ground:=Ground.data }],guard:=none }) (v:=.int .i64 k) rfl (by kernel_rfl) (by kernel_rfl) (by kernel_rfl) (fun _ _ _ h=>h) (Or.inl ⟨by rfl,?y3⟩) (by assumption) ?z3
  case y3 =>
    intro w hSw
    (try dsimp only at hSw)
    first | (go_simp; done) | (go_simp; with_reducible rfl) | (go_simp; rfl)
  try simp only [Act.put,List.setIfInBounds_toArray,List.set_cons_zero,List.set_cons_succ]
  refine wpAnyH_ready (rs:=[1]) (by kernel_rfl) (by simp) ?_
  refine AllReadyH.cons (o:={ dst:=some 6,op:=Op.call { callee:=Callee.value (Operand.func 42),args:=#[Operand.tmp 5],argTypes:=#[27] },type:=3,pos:= "law.go:231",after:=#[{ on:=0,ground:=Ground.data }],guard:=none }) rfl (fun K hK=>?_) AllReadyH.nil
  first | (go_at_call 42; refine (show Calls _ _ _ _ _ from HK.out _ (HUP.out _ hcur)).mono ?_; rintro e a1 ⟨rfl,hb1⟩; have hcur:=hcur.trans (hb1.mono hcur.size)) | (go_simp; go_at_call 42; refine (show Calls _ _ _ _ _ from HK.out _ (HUP.out _ hcur)).mono ?_; rintro e a1 ⟨rfl,hb1⟩; have hcur:=hcur.trans (hb1.mono hcur.size))
  refine hK.out _ _ (HKS.out _ hcur) (fun hHeld=>?_)
  clear hK K
  try simp only [Act.put,List.setIfInBounds_toArray,List.set_cons_zero,List.set_cons_succ]
  refine wpAnyH_take (i:=4) (oi:={ dst:=some 9,op:=Op.binOp BinOp.eql 3 (Operand.tmp 6) (Operand.tmp 8) 3,type:=4,pos:= "law.go:231",after:=#[{ on:=1,ground:=Ground.data },{ on:=3,ground:=Ground.data }],guard:=none }) (v:=.bool true) rfl (by kernel_rfl) (by kernel_rfl) (by kernel_rfl) (fun _ _ _ h=>h) (Or.inl ⟨by rfl,?y4⟩) (by assumption) ?z4
  case y4 =>
    intro w hSw
    (try dsimp only at hSw)
    first | (go_simp; done) | (go_simp; with_reducible rfl) | (go_simp; rfl)
  try simp only [Act.put,List.setIfInBounds_toArray,List.set_cons_zero,List.set_cons_succ]
  refine wpAnyH_take (i:=5) (oi:={ dst:=some 10,op:=Op.move (Operand.tmp 9),type:=4,pos:= "law.go:231",after:=#[{ on:=4,ground:=Ground.data },{ on:=1,ground:=Ground.chain }],guard:=none }) (v:=.bool true) rfl (by kernel_rfl) (by kernel_rfl) (by kernel_rfl) (fun _ _ _ h=>h) (Or.inl ⟨by rfl,?y5⟩) (by assumption) ?z5
  case y5 =>
    intro w hSw
    (try dsimp only at hSw)
    first | (go_simp; done) | (go_simp; with_reducible rfl) | (go_simp; rfl)
  try simp only [Act.put,List.setIfInBounds_toArray,List.set_cons_zero,List.set_cons_succ]
  refine wpAnyH_take (i:=6) (oi:={ dst:=some 11,op:=Op.move (Operand.tmp 0),type:=27,pos:= "law.go:231",after:=#[{ on:=5,ground:=Ground.guard }],guard:=some (5,true) }) (v:=.pointer (some ⟨bv,0,none⟩)) rfl (by kernel_rfl) (by kernel_rfl) (by kernel_rfl) (fun _ _ _ h=>h) (Or.inl ⟨by rfl,?y6⟩) (by assumption) ?z6
  case y6 =>
    intro w hSw
    (try dsimp only at hSw)
    first | (go_simp; done) | (go_simp; with_reducible rfl) | (go_simp; rfl)
  try simp only [Act.put,List.setIfInBounds_toArray,List.set_cons_zero,List.set_cons_succ]
  refine wpAnyH_take (i:=8) (oi:={ dst:=some 13,op:=Op.load 42 (Operand.tmp 3),type:=42,pos:= "law.go:231",after:=#[{ on:=5,ground:=Ground.guard }],guard:=some (5,true) }) (v:=.agg C) rfl (by kernel_rfl) (by kernel_rfl) (by kernel_rfl) (fun _ _ _ h=>h) (yl53 C r _ rfl rfl (fun _ h=>h.2.1) h25) (by assumption) ?z8
  try simp only [Act.put,List.setIfInBounds_toArray,List.set_cons_zero,List.set_cons_succ]
  refine wpAnyH_ready (rs:=[7]) (by kernel_rfl) (by simp) ?_
  refine AllReadyH.cons (o:={ dst:=some 12,op:=Op.call { callee:=Callee.value (Operand.func 24),args:=#[Operand.tmp 11],argTypes:=#[27] },type:=9,pos:= "law.go:231",after:=#[{ on:=6,ground:=Ground.data },{ on:=5,ground:=Ground.chain },{ on:=5,ground:=Ground.guard }],guard:=some (5,true) }) rfl (fun K hK=>?_) AllReadyH.nil
  first | (go_at_call 24; refine (show Calls _ _ _ _ _ from HE.out _ (HUP.out _ hcur)).mono ?_; rintro e a1 ⟨rfl,hb1⟩; have hcur:=hcur.trans (hb1.mono hcur.size)) | (go_simp; go_at_call 24; refine (show Calls _ _ _ _ _ from HE.out _ (HUP.out _ hcur)).mono ?_; rintro e a1 ⟨rfl,hb1⟩; have hcur:=hcur.trans (hb1.mono hcur.size))
  refine hK.out _ _ (HKS.out _ hcur) (fun hHeld=>?_)
  clear hK K
  try simp only [Act.put,List.setIfInBounds_toArray,List.set_cons_zero,List.set_cons_succ]
  refine wpAnyH_ready (rs:=[9]) (by kernel_rfl) (by simp) ?_
  refine AllReadyH.cons (o:={ dst:=some 14,op:=Op.call { callee:=Callee.value (Operand.func 43),args:=#[Operand.tmp 13],argTypes:=#[42] },type:=9,pos:= "law.go:231",after:=#[{ on:=8,ground:=Ground.data },{ on:=7,ground:=Ground.chain },{ on:=5,ground:=Ground.guard }],guard:=some (5,true) }) rfl (fun K hK=>?_) AllReadyH.nil
  first | (go_at_call 43; refine (show Calls _ _ _ _ _ from HE'.out _ (HUP.out _ hcur)).mono ?_; rintro e a1 ⟨rfl,hb1⟩; have hcur:=hcur.trans (hb1.mono hcur.size)) | (go_simp; go_at_call 43; refine (show Calls _ _ _ _ _ from HE'.out _ (HUP.out _ hcur)).mono ?_; rintro e a1 ⟨rfl,hb1⟩; have hcur:=hcur.trans (hb1.mono hcur.size))
  refine hK.out _ _ (HKS.out _ hcur) (fun hHeld=>?_)
  clear hK K
  try simp only [Act.put,List.setIfInBounds_toArray,List.set_cons_zero,List.set_cons_succ]
  refine wpAnyH_take (i:=10) (oi:={ dst:=some 15,op:=Op.binOp BinOp.eql 9 (Operand.tmp 12) (Operand.tmp 14) 9,type:=4,pos:= "law.go:231",after:=#[{ on:=7,ground:=Ground.data },{ on:=9,ground:=Ground.data },{ on:=5,ground:=Ground.guard }],guard:=some (5,true) }) (v:=.bool true) rfl (by kernel_rfl) (by kernel_rfl) (by kernel_rfl) (fun _ _ _ h=>h) (Or.inl ⟨by rfl,?y10⟩) (by assumption) ?z10
  case y10 =>
    intro w hSw
    (try dsimp only at hSw)
    first | (go_simp; done) | (go_simp; with_reducible rfl) | (go_simp; rfl)
  try simp only [Act.put,List.setIfInBounds_toArray,List.set_cons_zero,List.set_cons_succ]
  refine wpAnyH_take (i:=11) (oi:={ dst:=some 16,op:=Op.pick (Operand.tmp 10) (Operand.tmp 15) (Operand.const (Value.bool false)),type:=4,pos:= "law.go:231",after:=#[{ on:=5,ground:=Ground.data },{ on:=10,ground:=Ground.data }],guard:=none }) (v:=.bool true) rfl (by kernel_rfl) (by kernel_rfl) (by kernel_rfl) (fun _ _ _ h=>h) (Or.inl ⟨by rfl,?y11⟩) (by assumption) ?z11
  case y11 =>
    intro w hSw
    (try dsimp only at hSw)
    first | (go_simp; done) | (go_simp; with_reducible rfl) | (go_simp; rfl)
  try simp only [Act.put,List.setIfInBounds_toArray,List.set_cons_zero,List.set_cons_succ]
  refine wpAnyH_take (i:=12) (oi:={ dst:=some 17,op:=Op.move (Operand.tmp 16),type:=4,pos:= "law.go:231",after:=#[{ on:=11,ground:=Ground.data },{ on:=9,ground:=Ground.chain }],guard:=none }) (v:=.bool true) rfl (by kernel_rfl) (by kernel_rfl) (by kernel_rfl) (fun _ _ _ h=>h) (Or.inl ⟨by rfl,?y12⟩) (by assumption) ?z12
  case y12 =>
    intro w hSw
    (try dsimp only at hSw)
    first | (go_simp; done) | (go_simp; with_reducible rfl) | (go_simp; rfl)
  try simp only [Act.put,List.setIfInBounds_toArray,List.set_cons_zero,List.set_cons_succ]
  refine wpAnyH_take (i:=13) (oi:={ dst:=some 18,op:=Op.move (Operand.tmp 0),type:=27,pos:= "law.go:231",after:=#[{ on:=12,ground:=Ground.guard }],guard:=some (12,true) }) (v:=.pointer (some ⟨bv,0,none⟩)) rfl (by kernel_rfl) (by kernel_rfl) (by kernel_rfl) (fun _ _ _ h=>h) (Or.inl ⟨by rfl,?y13⟩) (by assumption) ?z13
  case y13 =>
    intro w hSw
    (try dsimp only at hSw)
    first | (go_simp; done) | (go_simp; with_reducible rfl) | (go_simp; rfl)
  try simp only [Act.put,List.setIfInBounds_toArray,List.set_cons_zero,List.set_cons_succ]
  refine wpAnyH_take (i:=15) (oi:={ dst:=some 20,op:=Op.load 42 (Operand.tmp 3),type:=42,pos:= "law.go:231",after:=#[{ on:=12,ground:=Ground.guard }],guard:=some (12,true) }) (v:=.agg C) rfl (by kernel_rfl) (by kernel_rfl) (by kernel_rfl) (fun _ _ _ h=>h) (yl53 C r _ rfl rfl (fun _ h=>h.2.1) h25) (by assumption) ?z15
  try simp only [Act.put,List.setIfInBounds_toArray,List.set_cons_zero,List.set_cons_succ]
  refine wpAnyH_ready (rs:=[14]) (by kernel_rfl) (by simp) ?_
  refine AllReadyH.cons (o:={ dst:=some 19,op:=Op.call { callee:=Callee.value (Operand.func 25),args:=#[Operand.tmp 18],argTypes:=#[27] },type:=3,pos:= "law.go:231",after:=#[{ on:=13,ground:=Ground.data },{ on:=12,ground:=Ground.chain },{ on:=12,ground:=Ground.guard }],guard:=some (12,true) }) rfl (fun K hK=>?_) AllReadyH.nil
  first | (go_at_call 25; refine (show Calls _ _ _ _ _ from HL.out _ (HUP.out _ hcur)).mono ?_; rintro e a1 ⟨rfl,hb1⟩; have hcur:=hcur.trans (hb1.mono hcur.size)) | (go_simp; go_at_call 25; refine (show Calls _ _ _ _ _ from HL.out _ (HUP.out _ hcur)).mono ?_; rintro e a1 ⟨rfl,hb1⟩; have hcur:=hcur.trans (hb1.mono hcur.size))
  refine hK.out _ _ (HKS.out _ hcur) (fun hHeld=>?_)
  clear hK K
  try simp only [Act.put,List.setIfInBounds_toArray,List.set_cons_zero,List.set_cons_succ]
  refine wpAnyH_ready (rs:=[16]) (by kernel_rfl) (by simp) ?_
  refine AllReadyH.cons (o:={ dst:=some 21,op:=Op.call { callee:=Callee.value (Operand.func 44),args:=#[Operand.tmp 20],argTypes:=#[42] },type:=3,pos:= "law.go:231",after:=#[{ on:=15,ground:=Ground.data },{ on:=14,ground:=Ground.chain },{ on:=12,ground:=Ground.guard }],guard:=some (12,true) }) rfl (fun K hK=>?_) AllReadyH.nil
  first | (go_at_call 44; refine (show Calls _ _ _ _ _ from HL'.out _ (HUP.out _ hcur)).mono ?_; rintro e a1 ⟨rfl,hb1⟩; have hcur:=hcur.trans (hb1.mono hcur.size)) | (go_simp; go_at_call 44; refine (show Calls _ _ _ _ _ from HL'.out _ (HUP.out _ hcur)).mono ?_; rintro e a1 ⟨rfl,hb1⟩; have hcur:=hcur.trans (hb1.mono hcur.size))
  refine hK.out _ _ (HKS.out _ hcur) (fun hHeld=>?_)
  clear hK K
  try simp only [Act.put,List.setIfInBounds_toArray,List.set_cons_zero,List.set_cons_succ]
  refine wpAnyH_take (i:=17) (oi:={ dst:=some 22,op:=Op.binOp BinOp.eql 3 (Operand.tmp 19) (Operand.tmp 21) 3,type:=4,pos:= "law.go:231",after:=#[{ on:=14,ground:=Ground.data },{ on:=16,ground:=Ground.data },{ on:=12,ground:=Ground.guard }],guard:=some (12,true) }) (v:=.bool true) rfl (by kernel_rfl) (by kernel_rfl) (by kernel_rfl) (fun _ _ _ h=>h) (Or.inl ⟨by rfl,?y17⟩) (by assumption) ?z17
  case y17 =>
    intro w hSw
    (try dsimp only at hSw)
    first | (go_simp; done) | (go_simp; with_reducible rfl) | (go_simp; rfl)
  try simp only [Act.put,List.setIfInBounds_toArray,List.set_cons_zero,List.set_cons_succ]
  refine wpAnyH_take (i:=18) (oi:={ dst:=some 23,op:=Op.pick (Operand.tmp 17) (Operand.tmp 22) (Operand.const (Value.bool false)),type:=4,pos:= "law.go:231",after:=#[{ on:=12,ground:=Ground.data },{ on:=17,ground:=Ground.data }],guard:=none }) (v:=.bool true) rfl (by kernel_rfl) (by kernel_rfl) (by kernel_rfl) (fun _ _ _ h=>h) (Or.inl ⟨by rfl,?y18⟩) (by assumption) ?z18
  case y18 =>
    intro w hSw
    (try dsimp only at hSw)
    first | (go_simp; done) | (go_simp; with_reducible rfl) | (go_simp; rfl)
  try simp only [Act.put,List.setIfInBounds_toArray,List.set_cons_zero,List.set_cons_succ]
  refine wpAnyH_take (i:=19) (oi:={ dst:=some 24,op:=Op.move (Operand.tmp 23),type:=4,pos:= "law.go:231",after:=#[{ on:=18,ground:=Ground.data },{ on:=16,ground:=Ground.chain }],guard:=none }) (v:=.bool true) rfl (by kernel_rfl) (by kernel_rfl) (by kernel_rfl) (fun _ _ _ h=>h) (Or.inl ⟨by rfl,?y19⟩) (by assumption) ?z19
  case y19 =>
    intro w hSw
    (try dsimp only at hSw)
    first | (go_simp; done) | (go_simp; with_reducible rfl) | (go_simp; rfl)
  try simp only [Act.put,List.setIfInBounds_toArray,List.set_cons_zero,List.set_cons_succ]
  refine wpAnyH_take (i:=20) (oi:={ dst:=some 25,op:=Op.move (Operand.tmp 0),type:=27,pos:= "law.go:231",after:=#[{ on:=19,ground:=Ground.guard }],guard:=some (19,true) }) (v:=.pointer (some ⟨bv,0,none⟩)) rfl (by kernel_rfl) (by kernel_rfl) (by kernel_rfl) (fun _ _ _ h=>h) (Or.inl ⟨by rfl,?y20⟩) (by assumption) ?z20
  case y20 =>
    intro w hSw
    (try dsimp only at hSw)
    first | (go_simp; done) | (go_simp; with_reducible rfl) | (go_simp; rfl)
  try simp only [Act.put,List.setIfInBounds_toArray,List.set_cons_zero,List.set_cons_succ]
  refine wpAnyH_take (i:=22) (oi:={ dst:=some 27,op:=Op.load 42 (Operand.tmp 3),type:=42,pos:= "law.go:231",after:=#[{ on:=19,ground:=Ground.guard }],guard:=some (19,true) }) (v:=.agg C) rfl (by kernel_rfl) (by kernel_rfl) (by kernel_rfl) (fun _ _ _ h=>h) (yl53 C r _ rfl rfl (fun _ h=>h.2.1) h25) (by assumption) ?z22
  try simp only [Act.put,List.setIfInBounds_toArray,List.set_cons_zero,List.set_cons_succ]
  refine wpAnyH_ready (rs:=[21]) (by kernel_rfl) (by simp) ?_
  refine AllReadyH.cons (o:={ dst:=some 26,op:=Op.call { callee:=Callee.value (Operand.func 45),args:=#[Operand.tmp 25],argTypes:=#[27] },type:=3,pos:= "law.go:231",after:=#[{ on:=20,ground:=Ground.data },{ on:=19,ground:=Ground.chain },{ on:=19,ground:=Ground.guard }],guard:=some (19,true) }) rfl (fun K hK=>?_) AllReadyH.nil
  first | (go_at_call 45; refine (show Calls _ _ _ _ _ from HS.out _ (HUP.out _ hcur)).mono ?_; rintro e a1 ⟨rfl,hb1⟩; have hcur:=hcur.trans (hb1.mono hcur.size)) | (go_simp; go_at_call 45; refine (show Calls _ _ _ _ _ from HS.out _ (HUP.out _ hcur)).mono ?_; rintro e a1 ⟨rfl,hb1⟩; have hcur:=hcur.trans (hb1.mono hcur.size))
  refine hK.out _ _ (HKS.out _ hcur) (fun hHeld=>?_)
  clear hK K
  try simp only [Act.put,List.setIfInBounds_toArray,List.set_cons_zero,List.set_cons_succ]
  refine wpAnyH_ready (rs:=[23]) (by kernel_rfl) (by simp) ?_
  refine AllReadyH.cons (o:={ dst:=some 28,op:=Op.call { callee:=Callee.value (Operand.func 46),args:=#[Operand.tmp 27],argTypes:=#[42] },type:=3,pos:= "law.go:231",after:=#[{ on:=22,ground:=Ground.data },{ on:=21,ground:=Ground.chain },{ on:=19,ground:=Ground.guard }],guard:=some (19,true) }) rfl (fun K hK=>?_) AllReadyH.nil
  first | (go_at_call 46; refine (show Calls _ _ _ _ _ from HS'.out _ (HUP.out _ hcur)).mono ?_; rintro e a1 ⟨rfl,hb1⟩; have hcur:=hcur.trans (hb1.mono hcur.size)) | (go_simp; go_at_call 46; refine (show Calls _ _ _ _ _ from HS'.out _ (HUP.out _ hcur)).mono ?_; rintro e a1 ⟨rfl,hb1⟩; have hcur:=hcur.trans (hb1.mono hcur.size))
  refine hK.out _ _ (HKS.out _ hcur) (fun hHeld=>?_)
  clear hK K
  try simp only [Act.put,List.setIfInBounds_toArray,List.set_cons_zero,List.set_cons_succ]
  refine wpAnyH_take (i:=24) (oi:={ dst:=some 29,op:=Op.binOp BinOp.eql 3 (Operand.tmp 26) (Operand.tmp 28) 3,type:=4,pos:= "law.go:231",after:=#[{ on:=21,ground:=Ground.data },{ on:=23,ground:=Ground.data },{ on:=19,ground:=Ground.guard }],guard:=some (19,true) }) (v:=.bool true) rfl (by kernel_rfl) (by kernel_rfl) (by kernel_rfl) (fun _ _ _ h=>h) (Or.inl ⟨by rfl,?y24⟩) (by assumption) ?z24
  case y24 =>
    intro w hSw
    (try dsimp only at hSw)
    first | (go_simp; done) | (go_simp; with_reducible rfl) | (go_simp; rfl)
  try simp only [Act.put,List.setIfInBounds_toArray,List.set_cons_zero,List.set_cons_succ]
  refine wpAnyH_take (i:=25) (oi:={ dst:=some 30,op:=Op.pick (Operand.tmp 24) (Operand.tmp 29) (Operand.const (Value.bool false)),type:=4,pos:= "law.go:231",after:=#[{ on:=19,ground:=Ground.data },{ on:=24,ground:=Ground.data }],guard:=none }) (v:=.bool true) rfl (by kernel_rfl) (by kernel_rfl) (by kernel_rfl) (fun _ _ _ h=>h) (Or.inl ⟨by rfl,?y25⟩) (by assumption) ?z25
  case y25 =>
    intro w hSw
    (try dsimp only at hSw)
    first | (go_simp; done) | (go_simp; with_reducible rfl) | (go_simp; rfl)
  try simp only [Act.put,List.setIfInBounds_toArray,List.set_cons_zero,List.set_cons_succ]
  refine wpAnyH_take (i:=26) (oi:={ dst:=some 31,op:=Op.move (Operand.tmp 30),type:=4,pos:= "law.go:231",after:=#[{ on:=25,ground:=Ground.data },{ on:=23,ground:=Ground.chain }],guard:=none }) (v:=.bool true) rfl (by kernel_rfl) (by kernel_rfl) (by kernel_rfl) (fun _ _ _ h=>h) (Or.inl ⟨by rfl,?y26⟩) (by assumption) ?z26
  case y26 =>
    intro w hSw
    (try dsimp only at hSw)
    first | (go_simp; done) | (go_simp; with_reducible rfl) | (go_simp; rfl)
  try simp only [Act.put,List.setIfInBounds_toArray,List.set_cons_zero,List.set_cons_succ]
  refine wpAnyH_take (i:=27) (oi:={ dst:=some 32,op:=Op.move (Operand.tmp 0),type:=27,pos:= "law.go:231",after:=#[{ on:=26,ground:=Ground.guard }],guard:=some (26,true) }) (v:=.pointer (some ⟨bv,0,none⟩)) rfl (by kernel_rfl) (by kernel_rfl) (by kernel_rfl) (fun _ _ _ h=>h) (Or.inl ⟨by rfl,?y27⟩) (by assumption) ?z27
  case y27 =>
    intro w hSw
    (try dsimp only at hSw)
    first | (go_simp; done) | (go_simp; with_reducible rfl) | (go_simp; rfl)
  try simp only [Act.put,List.setIfInBounds_toArray,List.set_cons_zero,List.set_cons_succ]
  refine wpAnyH_take (i:=29) (oi:={ dst:=some 34,op:=Op.load 42 (Operand.tmp 3),type:=42,pos:= "law.go:231",after:=#[{ on:=26,ground:=Ground.guard }],guard:=some (26,true) }) (v:=.agg C) rfl (by kernel_rfl) (by kernel_rfl) (by kernel_rfl) (fun _ _ _ h=>h) (yl53 C r _ rfl rfl (fun _ h=>h.2.1) h25) (by assumption) ?z29
  try simp only [Act.put,List.setIfInBounds_toArray,List.set_cons_zero,List.set_cons_succ]
  refine wpAnyH_ready (rs:=[28]) (by kernel_rfl) (by simp) ?_
  refine AllReadyH.cons (o:={ dst:=some 33,op:=Op.call { callee:=Callee.value (Operand.func 47),args:=#[Operand.tmp 32],argTypes:=#[27] },type:=34,pos:= "law.go:231",after:=#[{ on:=27,ground:=Ground.data },{ on:=26,ground:=Ground.chain },{ on:=26,ground:=Ground.guard }],guard:=some (26,true) }) rfl (fun K hK=>?_) AllReadyH.nil
  first | (go_at_call 47; refine (show Calls _ _ _ _ _ from HRw.out _ (HUP.out _ hcur)).mono ?_; rintro e a1 ⟨v1,rfl,hs1,hb1⟩; have hcur:=hcur.trans (hb1.mono hcur.size)) | (go_simp; go_at_call 47; refine (show Calls _ _ _ _ _ from HRw.out _ (HUP.out _ hcur)).mono ?_; rintro e a1 ⟨v1,rfl,hs1,hb1⟩; have hcur:=hcur.trans (hb1.mono hcur.size))
  refine hK.out _ _ (HKS.out _ hcur) (fun hHeld=>?_)
  clear hK K
  try simp only [Act.put,List.setIfInBounds_toArray,List.set_cons_zero,List.set_cons_succ]
  refine wpAnyH_ready (rs:=[30]) (by kernel_rfl) (by simp) ?_
  refine AllReadyH.cons (o:={ dst:=some 35,op:=Op.call { callee:=Callee.value (Operand.func 48),args:=#[Operand.tmp 34],argTypes:=#[42] },type:=34,pos:= "law.go:231",after:=#[{ on:=29,ground:=Ground.data },{ on:=28,ground:=Ground.chain },{ on:=26,ground:=Ground.guard }],guard:=some (26,true) }) rfl (fun K hK=>?_) AllReadyH.nil
  first | (go_at_call 48; refine (show Calls _ _ _ _ _ from HRw'.out _ (HUP.out _ hcur)).mono ?_; rintro e a1 ⟨v2,rfl,hs2,hb1⟩; have hs1:=hs1.on hb1; have hcur:=hcur.trans (hb1.mono hcur.size)) | (go_simp; go_at_call 48; refine (show Calls _ _ _ _ _ from HRw'.out _ (HUP.out _ hcur)).mono ?_; rintro e a1 ⟨v2,rfl,hs2,hb1⟩; have hs1:=hs1.on hb1; have hcur:=hcur.trans (hb1.mono hcur.size))
  refine hK.out _ _ (HKS.out _ hcur) (fun hHeld=>?_)
  clear hK K
  try simp only [Act.put,List.setIfInBounds_toArray,List.set_cons_zero,List.set_cons_succ]
  refine wpAnyH_ready (rs:=[31]) (by kernel_rfl) (by simp) ?_
  refine AllReadyH.cons (o:={ dst:=some 36,op:=Op.call { callee:=Callee.value (Operand.func 34),args:=#[Operand.tmp 33,Operand.tmp 35],argTypes:=#[34,34] },type:=4,pos:= "law.go:231",after:=#[{ on:=28,ground:=Ground.data },{ on:=30,ground:=Ground.data },{ on:=30,ground:=Ground.chain },{ on:=26,ground:=Ground.guard }],guard:=some (26,true) }) rfl (fun K hK=>?_) AllReadyH.nil
  first | (go_at_call 34; refine (show Calls _ _ _ _ _ from st_row ts ht _ _ _ hs1 hs2).mono ?_; rintro e a1 ⟨rfl,hb1⟩; have hcur:=hcur.trans (hb1.mono hcur.size)) | (go_simp; go_at_call 34; refine (show Calls _ _ _ _ _ from st_row ts ht _ _ _ hs1 hs2).mono ?_; rintro e a1 ⟨rfl,hb1⟩; have hcur:=hcur.trans (hb1.mono hcur.size))
  refine hK.out _ _ (HKS.out _ hcur) (fun hHeld=>?_)
  clear hK K
  try simp only [Act.put,List.setIfInBounds_toArray,List.set_cons_zero,List.set_cons_succ]
  refine wpAnyH_take (i:=32) (oi:={ dst:=some 37,op:=Op.pick (Operand.tmp 31) (Operand.tmp 36) (Operand.const (Value.bool false)),type:=4,pos:= "law.go:231",after:=#[{ on:=26,ground:=Ground.data },{ on:=31,ground:=Ground.data }],guard:=none }) (v:=.bool true) rfl (by kernel_rfl) (by kernel_rfl) (by kernel_rfl) (fun _ _ _ h=>h) (Or.inl ⟨by rfl,?y32⟩) (by assumption) ?z32
  case y32 =>
    intro w hSw
    (try dsimp only at hSw)
    first | (go_simp; done) | (go_simp; with_reducible rfl) | (go_simp; rfl)
  try simp only [Act.put,List.setIfInBounds_toArray,List.set_cons_zero,List.set_cons_succ]
  refine wpAnyH_take (i:=33) (oi:={ dst:=some 4,op:=Op.assign (Operand.tmp 37),type:=4,pos:= "law.go:231",after:=#[{ on:=32,ground:=Ground.data },{ on:=31,ground:=Ground.chain },{ on:=0,ground:=Ground.phase },{ on:=1,ground:=Ground.phase },{ on:=2,ground:=Ground.phase },{ on:=3,ground:=Ground.phase },{ on:=4,ground:=Ground.phase },{ on:=5,ground:=Ground.phase },{ on:=6,ground:=Ground.phase },{ on:=7,ground:=Ground.phase },{ on:=8,ground:=Ground.phase },{ on:=9,ground:=Ground.phase },{ on:=10,ground:=Ground.phase },{ on:=11,ground:=Ground.phase },{ on:=12,ground:=Ground.phase },{ on:=13,ground:=Ground.phase },{ on:=14,ground:=Ground.phase },{ on:=15,ground:=Ground.phase },{ on:=16,ground:=Ground.phase },{ on:=17,ground:=Ground.phase },{ on:=18,ground:=Ground.phase },{ on:=19,ground:=Ground.phase },{ on:=20,ground:=Ground.phase },{ on:=21,ground:=Ground.phase },{ on:=22,ground:=Ground.phase },{ on:=23,ground:=Ground.phase },{ on:=24,ground:=Ground.phase },{ on:=25,ground:=Ground.phase },{ on:=26,ground:=Ground.phase },{ on:=27,ground:=Ground.phase },{ on:=28,ground:=Ground.phase },{ on:=29,ground:=Ground.phase },{ on:=30,ground:=Ground.phase },{ on:=31,ground:=Ground.phase },{ on:=32,ground:=Ground.phase }],guard:=none }) (v:=.bool true) rfl (by kernel_rfl) (by kernel_rfl) (by kernel_rfl) (fun _ _ _ h=>h) (Or.inl ⟨by rfl,?y33⟩) (by assumption) ?z33
  case y33 =>
    intro w hSw
    (try dsimp only at hSw)
    first | (go_simp; done) | (go_simp; with_reducible rfl) | (go_simp; rfl)
  try simp only [Act.put,List.setIfInBounds_toArray,List.set_cons_zero,List.set_cons_succ]
  refine wpAnyH_done (by kernel_rfl) ?_ _
  go_wp2
  go_ret
  exact ⟨rfl,HUP.out _ hcur⟩
end Go.Proofs.YtiefeeoellagnaaGreatDoor.V
namespace Go.Proofs.YtiefeeoellagnaaGreatDoor.V
open Go.RowKit
set_option linter.unusedVariables false
set_option linter.unusedSimpArgs false
def OPG (O:Array Value) (tv:Value) (I N:Int) (bk:Bool) (x1 x2 y1 y2:Int) (x3 y3:Bool) (f1 g1:ByteArray) (f2 g2:Int) (f3 g3:Bool):Prop:=O.size=19∧O[1]?=some tv∧O[4]?=some (.int .i64 I)∧O[5]?=some (.int .i64 N)∧O[6]?=some (.bool bk)∧O[7]?=some (.int .i64 x1)∧O[8]?=some (.int .i64 x2)∧O[9]?=some (.bool x3)∧O[10]?=some (.int .i64 y1)∧O[11]?=some (.int .i64 y2)∧O[12]?=some (.bool y3)∧O[13]?=some (.string f1)∧O[14]?=some (.int .i64 f2)∧O[15]?=some (.bool f3)∧O[16]?=some (.string g1)∧O[17]?=some (.int .i64 g2)∧O[18]?=some (.bool g3)
structure PG (bv:Nat) (t s0:ByteArray) (I N:Int) (bk:Bool) (x1 x2 y1 y2:Int) (x3 y3:Bool) (f1 g1:ByteArray) (f2 g2:Int) (f3 g3:Bool) (eT eA eR eS eH eZ eG:Int) (w:World):Prop where
  qText:Ans 49 #[.pointer (some ⟨bv,0,none⟩)] (.tuple #[.string t,.int .i64 eT]) w
  qAt:Ans 51 #[.pointer (some ⟨bv,0,none⟩),.int .i64 I] (.tuple #[.string ⟨#[]⟩,.int .i64 eA]) w
  qRange:AnsV 53 #[.pointer (some ⟨bv,0,none⟩),.int .i64 I,.int .i64 N] (fun q c=>.tuple #[.slice q 0 c,.int .i64 eR]) w
  qHas:Ans 21 #[.pointer (some ⟨bv,0,none⟩),.string s0] (.tuple #[.bool false,.int .i64 eS]) w
  qMembers:AnsV 56 #[.pointer (some ⟨bv,0,none⟩)] (fun q c=>.tuple #[.slice q 0 c,.int .i64 eS]) w
  qField:Ans 23 #[.pointer (some ⟨bv,0,none⟩),.string s0] (.tuple #[.string ⟨#[]⟩,.bool false,.int .i64 eH]) w
  qFields:AnsV 59 #[.pointer (some ⟨bv,0,none⟩)] (fun q c=>.tuple #[.slice q 0 c,.int .i64 eH]) w
  qScore:Ans 119 #[.pointer (some ⟨bv,0,none⟩),.string s0] (.tuple #[.int .i64 0,.bool false,.int .i64 eZ]) w
  qRank:Ans 121 #[.pointer (some ⟨bv,0,none⟩),.string s0,.bool bk] (.tuple #[.int .i64 0,.bool false,.int .i64 eZ]) w
  qByRank:AnsV 123 #[.pointer (some ⟨bv,0,none⟩),.int .i64 I,.int .i64 N,.bool bk] (fun q c=>.tuple #[.slice q 0 c,.int .i64 eZ]) w
  qByScore:AnsV 126 #[.pointer (some ⟨bv,0,none⟩),.agg #[.int .i64 x1,.int .i64 x2,.bool x3],.agg #[.int .i64 y1,.int .i64 y2,.bool y3],.bool bk,.int .i64 I,.int .i64 N] (fun q c=>.tuple #[.slice q 0 c,.int .i64 eZ]) w
  qByLex:AnsV 128 #[.pointer (some ⟨bv,0,none⟩),.agg #[.string f1,.int .i64 f2,.bool f3],.agg #[.string g1,.int .i64 g2,.bool g3],.bool bk,.int .i64 I,.int .i64 N] (fun q c=>.tuple #[.slice q 0 c,.int .i64 eZ]) w
  qScan:AnsV 130 #[.pointer (some ⟨bv,0,none⟩),.int .i64 I,.int .i64 N] (fun q c=>.tuple #[.slice q 0 c,.int .i64 0,.int .i64 eG]) w
structure DG (C:Array Value) (t s0:ByteArray) (I N:Int) (bk:Bool) (x1 x2 y1 y2:Int) (x3 y3:Bool) (f1 g1:ByteArray) (f2 g2:Int) (f3 g3:Bool) (eT eA eR eS eH eZ eG:Int) (w:World):Prop where
  qText:Ans 50 #[.agg C] (.tuple #[.string t,.int .i64 eT]) w
  qAt:Ans 52 #[.agg C,.int .i64 I] (.tuple #[.string ⟨#[]⟩,.int .i64 eA]) w
  qRange:AnsV 54 #[.agg C,.int .i64 I,.int .i64 N] (fun q c=>.tuple #[.slice q 0 c,.int .i64 eR]) w
  qHas:Ans 55 #[.agg C,.string s0] (.tuple #[.bool false,.int .i64 eS]) w
  qMembers:AnsV 57 #[.agg C] (fun q c=>.tuple #[.slice q 0 c,.int .i64 eS]) w
  qField:Ans 58 #[.agg C,.string s0] (.tuple #[.string ⟨#[]⟩,.bool false,.int .i64 eH]) w
  qFields:AnsV 60 #[.agg C] (fun q c=>.tuple #[.slice q 0 c,.int .i64 eH]) w
  qScore:Ans 120 #[.agg C,.string s0] (.tuple #[.int .i64 0,.bool false,.int .i64 eZ]) w
  qRank:Ans 122 #[.agg C,.string s0,.bool bk] (.tuple #[.int .i64 0,.bool false,.int .i64 eZ]) w
  qByRank:AnsV 124 #[.agg C,.int .i64 I,.int .i64 N,.bool bk] (fun q c=>.tuple #[.slice q 0 c,.int .i64 eZ]) w
  qByScore:AnsV 127 #[.agg C,.agg #[.int .i64 x1,.int .i64 x2,.bool x3],.agg #[.int .i64 y1,.int .i64 y2,.bool y3],.bool bk,.int .i64 I,.int .i64 N] (fun q c=>.tuple #[.slice q 0 c,.int .i64 eZ]) w
  qByLex:AnsV 129 #[.agg C,.agg #[.string f1,.int .i64 f2,.bool f3],.agg #[.string g1,.int .i64 g2,.bool g3],.bool bk,.int .i64 I,.int .i64 N] (fun q c=>.tuple #[.slice q 0 c,.int .i64 eZ]) w
  qScan:AnsV 131 #[.agg C,.int .i64 I,.int .i64 N] (fun q c=>.tuple #[.slice q 0 c,.int .i64 0,.int .i64 eG]) w
theorem PG.on {bv:Nat} {t s0:ByteArray} {I N:Int} {bk:Bool} {x1 x2 y1 y2:Int} {x3 y3:Bool} {f1 g1:ByteArray} {f2 g2:Int} {f3 g3:Bool} {eT eA eR eS eH eZ eG:Int} {w w':World} (h:PG bv t s0 I N bk x1 x2 y1 y2 x3 y3 f1 g1 f2 g2 f3 g3 eT eA eR eS eH eZ eG w) (hb:Below w.heap.size w w'):PG bv t s0 I N bk x1 x2 y1 y2 x3 y3 f1 g1 f2 g2 f3 g3 eT eA eR eS eH eZ eG w':=⟨h.qText.on hb,h.qAt.on hb,h.qRange.on hb,h.qHas.on hb,h.qMembers.on hb,h.qField.on hb,h.qFields.on hb,h.qScore.on hb,h.qRank.on hb,h.qByRank.on hb,h.qByScore.on hb,h.qByLex.on hb,h.qScan.on hb⟩
theorem DG.on {C:Array Value} {t s0:ByteArray} {I N:Int} {bk:Bool} {x1 x2 y1 y2:Int} {x3 y3:Bool} {f1 g1:ByteArray} {f2 g2:Int} {f3 g3:Bool} {eT eA eR eS eH eZ eG:Int} {w w':World} (h:DG C t s0 I N bk x1 x2 y1 y2 x3 y3 f1 g1 f2 g2 f3 g3 eT eA eR eS eH eZ eG w) (hb:Below w.heap.size w w'):DG C t s0 I N bk x1 x2 y1 y2 x3 y3 f1 g1 f2 g2 f3 g3 eT eA eR eS eH eZ eG w':=⟨h.qText.on hb,h.qAt.on hb,h.qRange.on hb,h.qHas.on hb,h.qMembers.on hb,h.qField.on hb,h.qFields.on hb,h.qScore.on hb,h.qRank.on hb,h.qByRank.on hb,h.qByScore.on hb,h.qByLex.on hb,h.qScan.on hb⟩
set_option maxHeartbeats 8000000 in
set_option maxRecDepth 20000 in
theorem ordered_gen (bv:Nat) (C O:Array Value) (tv:Value) (t s0:ByteArray) (I N:Int) (bk:Bool) (x1 x2 y1 y2:Int) (x3 y3:Bool) (f1 g1:ByteArray) (f2 g2:Int) (f3 g3:Bool) (eT eA eR eS eH eZ eG:Int) (h25:C.size=25) (hO:OPG O tv I N bk x1 x2 y1 y2 x3 y3 f1 g1 f2 g2 f3 g3) (w:World) (hon:Ans 28 #[tv] (.string s0) w) (hp:PG bv t s0 I N bk x1 x2 y1 y2 x3 y3 f1 g1 f2 g2 f3 g3 eT eA eR eS eH eZ eG w) (hd:DG C t s0 I N bk x1 x2 y1 y2 x3 y3 f1 g1 f2 g2 f3 g3 eT eA eR eS eH eZ eG w) :
    Calls Tryz.prog 62 #[.pointer (some ⟨bv,0,none⟩),.agg C,.agg O] w fun e w'=>e=.returned (.bool true)∧Below w.heap.size w w':=by
  have HP:Hid _:=hp
  have HD:Hid _:=hd
  have HON:Hid _:=hon
  have ht:(t.toList == t.toList)=true:=by simp
  obtain ⟨W1,hW1⟩:∃ W1,W1=(w.alloc (.cells C 42)).alloc (.cells O 53):=⟨_,rfl⟩
  obtain ⟨r,hr⟩:∃ r,w.heap.size=r:=⟨_,rfl⟩
  obtain ⟨ro,hro⟩:∃ ro,w.heap.size + 1=ro:=⟨_,rfl⟩
  have h19:O.size=19:=hO.1
  have HUP:Hid (∀ W,Below W1.heap.size W1 W → Below w.heap.size w W):=fun W hW=>by
    have h1:Below w.heap.size w W1:=by rw [hW1]; exact (two_rows (Below.refl _ _)).1
    exact h1.trans (hW.mono h1.size)
  have HF:Hid (∀ W,Below W1.heap.size W1 W → W.rangeAt r 0 C.toList∧W.rangeAt ro 0 O.toList∧W.cell? ⟨ro,1,none⟩=some (tv)∧W.cell? ⟨ro,4,none⟩=some (.int .i64 I)∧W.cell? ⟨ro,5,none⟩=some (.int .i64 N)∧W.cell? ⟨ro,6,none⟩=some (.bool bk)∧W.cell? ⟨ro,7,none⟩=some (.int .i64 x1)∧W.cell? ⟨ro,8,none⟩=some (.int .i64 x2)∧W.cell? ⟨ro,9,none⟩=some (.bool x3)∧W.cell? ⟨ro,10,none⟩=some (.int .i64 y1)∧W.cell? ⟨ro,11,none⟩=some (.int .i64 y2)∧W.cell? ⟨ro,12,none⟩=some (.bool y3)∧W.cell? ⟨ro,13,none⟩=some (.string f1)∧W.cell? ⟨ro,14,none⟩=some (.int .i64 f2)∧W.cell? ⟨ro,15,none⟩=some (.bool f3)∧W.cell? ⟨ro,16,none⟩=some (.string g1)∧W.cell? ⟨ro,17,none⟩=some (.int .i64 g2)∧W.cell? ⟨ro,18,none⟩=some (.bool g3)):=fun W hW=>by
    have hk:W1.heap[r]?=some (.cells C 42)∧W1.heap[ro]?=some (.cells O 53):=by rw [hW1,← hr,← hro]; exact (two_rows (Below.refl _ _)).2
    have k1:=keep_row hk.1 hW
    have k2:=keep_row hk.2 hW
    obtain ⟨_,g1,g4,g5,g6,g7,g8,g9,g10,g11,g12,g13,g14,g15,g16,g17,g18⟩:=hO
    exact ⟨fun j v hv=>by rw [cellC k1]; simpa using hv,fun j v hv=>by rw [cellC k2]; simpa using hv,(cellC k2).trans g1,(cellC k2).trans g4,(cellC k2).trans g5,(cellC k2).trans g6,(cellC k2).trans g7,(cellC k2).trans g8,(cellC k2).trans g9,(cellC k2).trans g10,(cellC k2).trans g11,(cellC k2).trans g12,(cellC k2).trans g13,(cellC k2).trans g14,(cellC k2).trans g15,(cellC k2).trans g16,(cellC k2).trans g17,(cellC k2).trans g18⟩
  have HRR:Hid (w.heap.size=r∧w.heap.size + 1=ro):=⟨hr,hro⟩
  have HB0:Hid (Below W1.heap.size W1 W1):=Below.refl _ _
  clear hp hd hO hr hro hon
  go_enter Tryz.func62,Tryz.ntmps62
  go_upto_region 1 with fail
  rw [← hW1,HRR.out.2,HRR.out.1]
  clear hW1
  obtain ⟨hr,ho,o1,o4,o5,o6,o7,o8,o9,o10,o11,o12,o13,o14,o15,o16,o17,o18⟩:=HF.out _ HB0.out
  go_wp2_with (first | refine ldR C r _ (by rfl) rfl rfl hr h25 ?_ | refine ldO O ro _ (by rfl) rfl rfl ho h19 ?_)
  refine (show Calls _ _ _ _ _ from HON.out _ (HUP.out _ HB0.out)).mono ?_
  rintro e w1 ⟨rfl,hb⟩
  have HB1:Hid (Below W1.heap.size W1 w1):=HB0.out.trans (hb.mono HB0.out.size)
  clear hb hr ho o1 o4 o5 o6 o7 o8 o9 o10 o11 o12 o13 o14 o15 o16 o17 o18
  obtain ⟨hr,ho,o1,o4,o5,o6,o7,o8,o9,o10,o11,o12,o13,o14,o15,o16,o17,o18⟩:=HF.out _ HB1.out
  go_wp2_with (first | refine ldR C r _ (by rfl) rfl rfl hr h25 ?_ | refine ldO O ro _ (by rfl) rfl rfl ho h19 ?_)
  refine (show Calls _ _ _ _ _ from HP.out.qScore _ (HUP.out _ HB1.out)).mono ?_
  rintro e w2 ⟨rfl,hb⟩
  have HB2:Hid (Below W1.heap.size W1 w2):=HB1.out.trans (hb.mono HB1.out.size)
  clear hb hr ho o1 o4 o5 o6 o7 o8 o9 o10 o11 o12 o13 o14 o15 o16 o17 o18
  obtain ⟨hr,ho,o1,o4,o5,o6,o7,o8,o9,o10,o11,o12,o13,o14,o15,o16,o17,o18⟩:=HF.out _ HB2.out
  go_wp2_with (first | refine ldR C r _ (by rfl) rfl rfl hr h25 ?_ | refine ldO O ro _ (by rfl) rfl rfl ho h19 ?_)
  refine (show Calls _ _ _ _ _ from HD.out.qScore _ (HUP.out _ HB2.out)).mono ?_
  rintro e w3 ⟨rfl,hb⟩
  have HB3:Hid (Below W1.heap.size W1 w3):=HB2.out.trans (hb.mono HB2.out.size)
  clear hb hr ho o1 o4 o5 o6 o7 o8 o9 o10 o11 o12 o13 o14 o15 o16 o17 o18
  obtain ⟨hr,ho,o1,o4,o5,o6,o7,o8,o9,o10,o11,o12,o13,o14,o15,o16,o17,o18⟩:=HF.out _ HB3.out
  go_wp2_with (first | refine ldR C r _ (by rfl) rfl rfl hr h25 ?_ | refine ldO O ro _ (by rfl) rfl rfl ho h19 ?_)
  refine (show Calls _ _ _ _ _ from HP.out.qRank _ (HUP.out _ HB3.out)).mono ?_
  rintro e w4 ⟨rfl,hb⟩
  have HB4:Hid (Below W1.heap.size W1 w4):=HB3.out.trans (hb.mono HB3.out.size)
  clear hb hr ho o1 o4 o5 o6 o7 o8 o9 o10 o11 o12 o13 o14 o15 o16 o17 o18
  obtain ⟨hr,ho,o1,o4,o5,o6,o7,o8,o9,o10,o11,o12,o13,o14,o15,o16,o17,o18⟩:=HF.out _ HB4.out
  go_wp2_with (first | refine ldR C r _ (by rfl) rfl rfl hr h25 ?_ | refine ldO O ro _ (by rfl) rfl rfl ho h19 ?_)
  refine (show Calls _ _ _ _ _ from HD.out.qRank _ (HUP.out _ HB4.out)).mono ?_
  rintro e w5 ⟨rfl,hb⟩
  have HB5:Hid (Below W1.heap.size W1 w5):=HB4.out.trans (hb.mono HB4.out.size)
  clear hb hr ho o1 o4 o5 o6 o7 o8 o9 o10 o11 o12 o13 o14 o15 o16 o17 o18
  obtain ⟨hr,ho,o1,o4,o5,o6,o7,o8,o9,o10,o11,o12,o13,o14,o15,o16,o17,o18⟩:=HF.out _ HB5.out
  go_wp2_with (first | refine ldR C r _ (by rfl) rfl rfl hr h25 ?_ | refine ldO O ro _ (by rfl) rfl rfl ho h19 ?_)
  refine (show Calls _ _ _ _ _ from HP.out.qByRank _ (HUP.out _ HB5.out)).mono ?_
  rintro e w6 ⟨q19,c19,rfl,hb⟩
  have HB6:Hid (Below W1.heap.size W1 w6):=HB5.out.trans (hb.mono HB5.out.size)
  clear hb hr ho o1 o4 o5 o6 o7 o8 o9 o10 o11 o12 o13 o14 o15 o16 o17 o18
  obtain ⟨hr,ho,o1,o4,o5,o6,o7,o8,o9,o10,o11,o12,o13,o14,o15,o16,o17,o18⟩:=HF.out _ HB6.out
  go_wp2_with (first | refine ldR C r _ (by rfl) rfl rfl hr h25 ?_ | refine ldO O ro _ (by rfl) rfl rfl ho h19 ?_)
  refine (show Calls _ _ _ _ _ from HD.out.qByRank _ (HUP.out _ HB6.out)).mono ?_
  rintro e w7 ⟨q20,c20,rfl,hb⟩
  have HB7:Hid (Below W1.heap.size W1 w7):=HB6.out.trans (hb.mono HB6.out.size)
  clear hb hr ho o1 o4 o5 o6 o7 o8 o9 o10 o11 o12 o13 o14 o15 o16 o17 o18
  obtain ⟨hr,ho,o1,o4,o5,o6,o7,o8,o9,o10,o11,o12,o13,o14,o15,o16,o17,o18⟩:=HF.out _ HB7.out
  go_wp2_with (first | refine ldR C r _ (by rfl) rfl rfl hr h25 ?_ | refine ldO O ro _ (by rfl) rfl rfl ho h19 ?_)
  refine (show Calls _ _ _ _ _ from ss_nil _ _ _ _ _).mono ?_
  rintro e w8 ⟨rfl,hb⟩
  have HB8:Hid (Below W1.heap.size W1 w8):=HB7.out.trans (hb.mono HB7.out.size)
  clear hb hr ho o1 o4 o5 o6 o7 o8 o9 o10 o11 o12 o13 o14 o15 o16 o17 o18
  obtain ⟨hr,ho,o1,o4,o5,o6,o7,o8,o9,o10,o11,o12,o13,o14,o15,o16,o17,o18⟩:=HF.out _ HB8.out
  go_wp2_with (first | refine ldR C r _ (by rfl) rfl rfl hr h25 ?_ | refine ldO O ro _ (by rfl) rfl rfl ho h19 ?_)
  refine (show Calls _ _ _ _ _ from HP.out.qByScore _ (HUP.out _ HB8.out)).mono ?_
  rintro e w9 ⟨q21,c21,rfl,hb⟩
  have HB9:Hid (Below W1.heap.size W1 w9):=HB8.out.trans (hb.mono HB8.out.size)
  clear hb hr ho o1 o4 o5 o6 o7 o8 o9 o10 o11 o12 o13 o14 o15 o16 o17 o18
  obtain ⟨hr,ho,o1,o4,o5,o6,o7,o8,o9,o10,o11,o12,o13,o14,o15,o16,o17,o18⟩:=HF.out _ HB9.out
  go_wp2_with (first | refine ldR C r _ (by rfl) rfl rfl hr h25 ?_ | refine ldO O ro _ (by rfl) rfl rfl ho h19 ?_)
  refine (show Calls _ _ _ _ _ from HD.out.qByScore _ (HUP.out _ HB9.out)).mono ?_
  rintro e w10 ⟨q22,c22,rfl,hb⟩
  have HB10:Hid (Below W1.heap.size W1 w10):=HB9.out.trans (hb.mono HB9.out.size)
  clear hb hr ho o1 o4 o5 o6 o7 o8 o9 o10 o11 o12 o13 o14 o15 o16 o17 o18
  obtain ⟨hr,ho,o1,o4,o5,o6,o7,o8,o9,o10,o11,o12,o13,o14,o15,o16,o17,o18⟩:=HF.out _ HB10.out
  go_wp2_with (first | refine ldR C r _ (by rfl) rfl rfl hr h25 ?_ | refine ldO O ro _ (by rfl) rfl rfl ho h19 ?_)
  refine (show Calls _ _ _ _ _ from ss_nil _ _ _ _ _).mono ?_
  rintro e w11 ⟨rfl,hb⟩
  have HB11:Hid (Below W1.heap.size W1 w11):=HB10.out.trans (hb.mono HB10.out.size)
  clear hb hr ho o1 o4 o5 o6 o7 o8 o9 o10 o11 o12 o13 o14 o15 o16 o17 o18
  obtain ⟨hr,ho,o1,o4,o5,o6,o7,o8,o9,o10,o11,o12,o13,o14,o15,o16,o17,o18⟩:=HF.out _ HB11.out
  go_wp2_with (first | refine ldR C r _ (by rfl) rfl rfl hr h25 ?_ | refine ldO O ro _ (by rfl) rfl rfl ho h19 ?_)
  refine (show Calls _ _ _ _ _ from HP.out.qByLex _ (HUP.out _ HB11.out)).mono ?_
  rintro e w12 ⟨q23,c23,rfl,hb⟩
  have HB12:Hid (Below W1.heap.size W1 w12):=HB11.out.trans (hb.mono HB11.out.size)
  clear hb hr ho o1 o4 o5 o6 o7 o8 o9 o10 o11 o12 o13 o14 o15 o16 o17 o18
  obtain ⟨hr,ho,o1,o4,o5,o6,o7,o8,o9,o10,o11,o12,o13,o14,o15,o16,o17,o18⟩:=HF.out _ HB12.out
  go_wp2_with (first | refine ldR C r _ (by rfl) rfl rfl hr h25 ?_ | refine ldO O ro _ (by rfl) rfl rfl ho h19 ?_)
  refine (show Calls _ _ _ _ _ from HD.out.qByLex _ (HUP.out _ HB12.out)).mono ?_
  rintro e w13 ⟨q24,c24,rfl,hb⟩
  have HB13:Hid (Below W1.heap.size W1 w13):=HB12.out.trans (hb.mono HB12.out.size)
  clear hb hr ho o1 o4 o5 o6 o7 o8 o9 o10 o11 o12 o13 o14 o15 o16 o17 o18
  obtain ⟨hr,ho,o1,o4,o5,o6,o7,o8,o9,o10,o11,o12,o13,o14,o15,o16,o17,o18⟩:=HF.out _ HB13.out
  go_wp2_with (first | refine ldR C r _ (by rfl) rfl rfl hr h25 ?_ | refine ldO O ro _ (by rfl) rfl rfl ho h19 ?_)
  refine (show Calls _ _ _ _ _ from HP.out.qScan _ (HUP.out _ HB13.out)).mono ?_
  rintro e w14 ⟨q25,c25,rfl,hb⟩
  have HB14:Hid (Below W1.heap.size W1 w14):=HB13.out.trans (hb.mono HB13.out.size)
  clear hb hr ho o1 o4 o5 o6 o7 o8 o9 o10 o11 o12 o13 o14 o15 o16 o17 o18
  obtain ⟨hr,ho,o1,o4,o5,o6,o7,o8,o9,o10,o11,o12,o13,o14,o15,o16,o17,o18⟩:=HF.out _ HB14.out
  go_wp2_with (first | refine ldR C r _ (by rfl) rfl rfl hr h25 ?_ | refine ldO O ro _ (by rfl) rfl rfl ho h19 ?_)
  refine (show Calls _ _ _ _ _ from HD.out.qScan _ (HUP.out _ HB14.out)).mono ?_
  rintro e w15 ⟨q26,c26,rfl,hb⟩
  have HB15:Hid (Below W1.heap.size W1 w15):=HB14.out.trans (hb.mono HB14.out.size)
  clear hb hr ho o1 o4 o5 o6 o7 o8 o9 o10 o11 o12 o13 o14 o15 o16 o17 o18
  obtain ⟨hr,ho,o1,o4,o5,o6,o7,o8,o9,o10,o11,o12,o13,o14,o15,o16,o17,o18⟩:=HF.out _ HB15.out
  go_wp2_with (first | refine ldR C r _ (by rfl) rfl rfl hr h25 ?_ | refine ldO O ro _ (by rfl) rfl rfl ho h19 ?_)
  refine (show Calls _ _ _ _ _ from ss_nil _ _ _ _ _).mono ?_
  rintro e w16 ⟨rfl,hb⟩
  have HB16:Hid (Below W1.heap.size W1 w16):=HB15.out.trans (hb.mono HB15.out.size)
  clear hb hr ho o1 o4 o5 o6 o7 o8 o9 o10 o11 o12 o13 o14 o15 o16 o17 o18
  obtain ⟨hr,ho,o1,o4,o5,o6,o7,o8,o9,o10,o11,o12,o13,o14,o15,o16,o17,o18⟩:=HF.out _ HB16.out
  go_wp2_with (first | refine ldR C r _ (by rfl) rfl rfl hr h25 ?_ | refine ldO O ro _ (by rfl) rfl rfl ho h19 ?_)
  refine (show Calls _ _ _ _ _ from st_nil _ _ _ _ _).mono ?_
  rintro e w17 ⟨rfl,hb⟩
  have HB17:Hid (Below W1.heap.size W1 w17):=HB16.out.trans (hb.mono HB16.out.size)
  clear hb hr ho o1 o4 o5 o6 o7 o8 o9 o10 o11 o12 o13 o14 o15 o16 o17 o18
  obtain ⟨hr,ho,o1,o4,o5,o6,o7,o8,o9,o10,o11,o12,o13,o14,o15,o16,o17,o18⟩:=HF.out _ HB17.out
  go_wp2
  go_ret
  exact ⟨rfl,HUP.out _ HB17.out⟩
set_option maxHeartbeats 8000000 in
set_option maxRecDepth 20000 in
theorem asked_gen (bv:Nat) (C O:Array Value) (tv:Value) (t s0:ByteArray) (I N:Int) (bk:Bool) (x1 x2 y1 y2:Int) (x3 y3:Bool) (f1 g1:ByteArray) (f2 g2:Int) (f3 g3:Bool) (eT eA eR eS eH eZ eG:Int) (h25:C.size=25) (hO:OPG O tv I N bk x1 x2 y1 y2 x3 y3 f1 g1 f2 g2 f3 g3) (w:World) (hon:Ans 28 #[tv] (.string s0) w) (hp:PG bv t s0 I N bk x1 x2 y1 y2 x3 y3 f1 g1 f2 g2 f3 g3 eT eA eR eS eH eZ eG w) (hd:DG C t s0 I N bk x1 x2 y1 y2 x3 y3 f1 g1 f2 g2 f3 g3 eT eA eR eS eH eZ eG w) :
    Calls Tryz.prog 11 #[.pointer (some ⟨bv,0,none⟩),.agg C,.agg O] w fun e w'=>e=.returned (.bool true)∧Below w.heap.size w w':=by
  have HP:Hid _:=hp
  have HD:Hid _:=hd
  have HON:Hid _:=hon
  have ht:(t.toList == t.toList)=true:=by simp
  have HOR:Hid (∀ W,Below w.heap.size w W → Calls Tryz.prog 62 #[.pointer (some ⟨bv,0,none⟩),.agg C,.agg O] W fun e w'=>e=.returned (.bool true)∧Below W.heap.size W w'):=fun W hW=>ordered_gen bv C O tv t s0 I N bk x1 x2 y1 y2 x3 y3 f1 g1 f2 g2 f3 g3 eT eA eR eS eH eZ eG h25 hO W (hon.on hW) (hp.on hW) (hd.on hW)
  obtain ⟨W1,hW1⟩:∃ W1,W1=(w.alloc (.cells C 42)).alloc (.cells O 53):=⟨_,rfl⟩
  obtain ⟨r,hr⟩:∃ r,w.heap.size=r:=⟨_,rfl⟩
  obtain ⟨ro,hro⟩:∃ ro,w.heap.size + 1=ro:=⟨_,rfl⟩
  have h19:O.size=19:=hO.1
  have HUP:Hid (∀ W,Below W1.heap.size W1 W → Below w.heap.size w W):=fun W hW=>by
    have h1:Below w.heap.size w W1:=by rw [hW1]; exact (two_rows (Below.refl _ _)).1
    exact h1.trans (hW.mono h1.size)
  have HF:Hid (∀ W,Below W1.heap.size W1 W → W.rangeAt r 0 C.toList∧W.rangeAt ro 0 O.toList∧W.cell? ⟨ro,1,none⟩=some (tv)∧W.cell? ⟨ro,4,none⟩=some (.int .i64 I)∧W.cell? ⟨ro,5,none⟩=some (.int .i64 N)∧W.cell? ⟨ro,6,none⟩=some (.bool bk)∧W.cell? ⟨ro,7,none⟩=some (.int .i64 x1)∧W.cell? ⟨ro,8,none⟩=some (.int .i64 x2)∧W.cell? ⟨ro,9,none⟩=some (.bool x3)∧W.cell? ⟨ro,10,none⟩=some (.int .i64 y1)∧W.cell? ⟨ro,11,none⟩=some (.int .i64 y2)∧W.cell? ⟨ro,12,none⟩=some (.bool y3)∧W.cell? ⟨ro,13,none⟩=some (.string f1)∧W.cell? ⟨ro,14,none⟩=some (.int .i64 f2)∧W.cell? ⟨ro,15,none⟩=some (.bool f3)∧W.cell? ⟨ro,16,none⟩=some (.string g1)∧W.cell? ⟨ro,17,none⟩=some (.int .i64 g2)∧W.cell? ⟨ro,18,none⟩=some (.bool g3)):=fun W hW=>by
    have hk:W1.heap[r]?=some (.cells C 42)∧W1.heap[ro]?=some (.cells O 53):=by rw [hW1,← hr,← hro]; exact (two_rows (Below.refl _ _)).2
    have k1:=keep_row hk.1 hW
    have k2:=keep_row hk.2 hW
    obtain ⟨_,g1,g4,g5,g6,g7,g8,g9,g10,g11,g12,g13,g14,g15,g16,g17,g18⟩:=hO
    exact ⟨fun j v hv=>by rw [cellC k1]; simpa using hv,fun j v hv=>by rw [cellC k2]; simpa using hv,(cellC k2).trans g1,(cellC k2).trans g4,(cellC k2).trans g5,(cellC k2).trans g6,(cellC k2).trans g7,(cellC k2).trans g8,(cellC k2).trans g9,(cellC k2).trans g10,(cellC k2).trans g11,(cellC k2).trans g12,(cellC k2).trans g13,(cellC k2).trans g14,(cellC k2).trans g15,(cellC k2).trans g16,(cellC k2).trans g17,(cellC k2).trans g18⟩
  have HRR:Hid (w.heap.size=r∧w.heap.size + 1=ro):=⟨hr,hro⟩
  have HB0:Hid (Below W1.heap.size W1 W1):=Below.refl _ _
  clear hp hd hO hr hro hon
  go_enter Tryz.func11,Tryz.ntmps11
  go_upto_region 1 with fail
  rw [← hW1,HRR.out.2,HRR.out.1]
  clear hW1
  obtain ⟨hr,ho,o1,o4,o5,o6,o7,o8,o9,o10,o11,o12,o13,o14,o15,o16,o17,o18⟩:=HF.out _ HB0.out
  go_wp2_with (first | refine ldR C r _ (by rfl) rfl rfl hr h25 ?_ | refine ldO O ro _ (by rfl) rfl rfl ho h19 ?_)
  refine (show Calls _ _ _ _ _ from HON.out _ (HUP.out _ HB0.out)).mono ?_
  rintro e w1 ⟨rfl,hb⟩
  have HB1:Hid (Below W1.heap.size W1 w1):=HB0.out.trans (hb.mono HB0.out.size)
  clear hb hr ho o1 o4 o5 o6 o7 o8 o9 o10 o11 o12 o13 o14 o15 o16 o17 o18
  obtain ⟨hr,ho,o1,o4,o5,o6,o7,o8,o9,o10,o11,o12,o13,o14,o15,o16,o17,o18⟩:=HF.out _ HB1.out
  go_wp2_with (first | refine ldR C r _ (by rfl) rfl rfl hr h25 ?_ | refine ldO O ro _ (by rfl) rfl rfl ho h19 ?_)
  refine (show Calls _ _ _ _ _ from HP.out.qText _ (HUP.out _ HB1.out)).mono ?_
  rintro e w2 ⟨rfl,hb⟩
  have HB2:Hid (Below W1.heap.size W1 w2):=HB1.out.trans (hb.mono HB1.out.size)
  clear hb hr ho o1 o4 o5 o6 o7 o8 o9 o10 o11 o12 o13 o14 o15 o16 o17 o18
  obtain ⟨hr,ho,o1,o4,o5,o6,o7,o8,o9,o10,o11,o12,o13,o14,o15,o16,o17,o18⟩:=HF.out _ HB2.out
  go_wp2_with (first | refine ldR C r _ (by rfl) rfl rfl hr h25 ?_ | refine ldO O ro _ (by rfl) rfl rfl ho h19 ?_)
  refine (show Calls _ _ _ _ _ from HD.out.qText _ (HUP.out _ HB2.out)).mono ?_
  rintro e w3 ⟨rfl,hb⟩
  have HB3:Hid (Below W1.heap.size W1 w3):=HB2.out.trans (hb.mono HB2.out.size)
  clear hb hr ho o1 o4 o5 o6 o7 o8 o9 o10 o11 o12 o13 o14 o15 o16 o17 o18
  obtain ⟨hr,ho,o1,o4,o5,o6,o7,o8,o9,o10,o11,o12,o13,o14,o15,o16,o17,o18⟩:=HF.out _ HB3.out
  go_wp2_with (first | refine ldR C r _ (by rfl) rfl rfl hr h25 ?_ | refine ldO O ro _ (by rfl) rfl rfl ho h19 ?_)
  refine (show Calls _ _ _ _ _ from HP.out.qAt _ (HUP.out _ HB3.out)).mono ?_
  rintro e w4 ⟨rfl,hb⟩
  have HB4:Hid (Below W1.heap.size W1 w4):=HB3.out.trans (hb.mono HB3.out.size)
  clear hb hr ho o1 o4 o5 o6 o7 o8 o9 o10 o11 o12 o13 o14 o15 o16 o17 o18
  obtain ⟨hr,ho,o1,o4,o5,o6,o7,o8,o9,o10,o11,o12,o13,o14,o15,o16,o17,o18⟩:=HF.out _ HB4.out
  go_wp2_with (first | refine ldR C r _ (by rfl) rfl rfl hr h25 ?_ | refine ldO O ro _ (by rfl) rfl rfl ho h19 ?_)
  refine (show Calls _ _ _ _ _ from HD.out.qAt _ (HUP.out _ HB4.out)).mono ?_
  rintro e w5 ⟨rfl,hb⟩
  have HB5:Hid (Below W1.heap.size W1 w5):=HB4.out.trans (hb.mono HB4.out.size)
  clear hb hr ho o1 o4 o5 o6 o7 o8 o9 o10 o11 o12 o13 o14 o15 o16 o17 o18
  obtain ⟨hr,ho,o1,o4,o5,o6,o7,o8,o9,o10,o11,o12,o13,o14,o15,o16,o17,o18⟩:=HF.out _ HB5.out
  go_wp2_with (first | refine ldR C r _ (by rfl) rfl rfl hr h25 ?_ | refine ldO O ro _ (by rfl) rfl rfl ho h19 ?_)
  refine (show Calls _ _ _ _ _ from HP.out.qRange _ (HUP.out _ HB5.out)).mono ?_
  rintro e w6 ⟨q5,c5,rfl,hb⟩
  have HB6:Hid (Below W1.heap.size W1 w6):=HB5.out.trans (hb.mono HB5.out.size)
  clear hb hr ho o1 o4 o5 o6 o7 o8 o9 o10 o11 o12 o13 o14 o15 o16 o17 o18
  obtain ⟨hr,ho,o1,o4,o5,o6,o7,o8,o9,o10,o11,o12,o13,o14,o15,o16,o17,o18⟩:=HF.out _ HB6.out
  go_wp2_with (first | refine ldR C r _ (by rfl) rfl rfl hr h25 ?_ | refine ldO O ro _ (by rfl) rfl rfl ho h19 ?_)
  refine (show Calls _ _ _ _ _ from HD.out.qRange _ (HUP.out _ HB6.out)).mono ?_
  rintro e w7 ⟨q6,c6,rfl,hb⟩
  have HB7:Hid (Below W1.heap.size W1 w7):=HB6.out.trans (hb.mono HB6.out.size)
  clear hb hr ho o1 o4 o5 o6 o7 o8 o9 o10 o11 o12 o13 o14 o15 o16 o17 o18
  obtain ⟨hr,ho,o1,o4,o5,o6,o7,o8,o9,o10,o11,o12,o13,o14,o15,o16,o17,o18⟩:=HF.out _ HB7.out
  go_wp2_with (first | refine ldR C r _ (by rfl) rfl rfl hr h25 ?_ | refine ldO O ro _ (by rfl) rfl rfl ho h19 ?_)
  refine (show Calls _ _ _ _ _ from st_nil _ _ _ _ _).mono ?_
  rintro e w8 ⟨rfl,hb⟩
  have HB8:Hid (Below W1.heap.size W1 w8):=HB7.out.trans (hb.mono HB7.out.size)
  clear hb hr ho o1 o4 o5 o6 o7 o8 o9 o10 o11 o12 o13 o14 o15 o16 o17 o18
  obtain ⟨hr,ho,o1,o4,o5,o6,o7,o8,o9,o10,o11,o12,o13,o14,o15,o16,o17,o18⟩:=HF.out _ HB8.out
  go_wp2_with (first | refine ldR C r _ (by rfl) rfl rfl hr h25 ?_ | refine ldO O ro _ (by rfl) rfl rfl ho h19 ?_)
  refine (show Calls _ _ _ _ _ from HP.out.qHas _ (HUP.out _ HB8.out)).mono ?_
  rintro e w9 ⟨rfl,hb⟩
  have HB9:Hid (Below W1.heap.size W1 w9):=HB8.out.trans (hb.mono HB8.out.size)
  clear hb hr ho o1 o4 o5 o6 o7 o8 o9 o10 o11 o12 o13 o14 o15 o16 o17 o18
  obtain ⟨hr,ho,o1,o4,o5,o6,o7,o8,o9,o10,o11,o12,o13,o14,o15,o16,o17,o18⟩:=HF.out _ HB9.out
  go_wp2_with (first | refine ldR C r _ (by rfl) rfl rfl hr h25 ?_ | refine ldO O ro _ (by rfl) rfl rfl ho h19 ?_)
  refine (show Calls _ _ _ _ _ from HD.out.qHas _ (HUP.out _ HB9.out)).mono ?_
  rintro e w10 ⟨rfl,hb⟩
  have HB10:Hid (Below W1.heap.size W1 w10):=HB9.out.trans (hb.mono HB9.out.size)
  clear hb hr ho o1 o4 o5 o6 o7 o8 o9 o10 o11 o12 o13 o14 o15 o16 o17 o18
  obtain ⟨hr,ho,o1,o4,o5,o6,o7,o8,o9,o10,o11,o12,o13,o14,o15,o16,o17,o18⟩:=HF.out _ HB10.out
  go_wp2_with (first | refine ldR C r _ (by rfl) rfl rfl hr h25 ?_ | refine ldO O ro _ (by rfl) rfl rfl ho h19 ?_)
  refine (show Calls _ _ _ _ _ from HP.out.qMembers _ (HUP.out _ HB10.out)).mono ?_
  rintro e w11 ⟨q9,c9,rfl,hb⟩
  have HB11:Hid (Below W1.heap.size W1 w11):=HB10.out.trans (hb.mono HB10.out.size)
  clear hb hr ho o1 o4 o5 o6 o7 o8 o9 o10 o11 o12 o13 o14 o15 o16 o17 o18
  obtain ⟨hr,ho,o1,o4,o5,o6,o7,o8,o9,o10,o11,o12,o13,o14,o15,o16,o17,o18⟩:=HF.out _ HB11.out
  go_wp2_with (first | refine ldR C r _ (by rfl) rfl rfl hr h25 ?_ | refine ldO O ro _ (by rfl) rfl rfl ho h19 ?_)
  refine (show Calls _ _ _ _ _ from HD.out.qMembers _ (HUP.out _ HB11.out)).mono ?_
  rintro e w12 ⟨q10,c10,rfl,hb⟩
  have HB12:Hid (Below W1.heap.size W1 w12):=HB11.out.trans (hb.mono HB11.out.size)
  clear hb hr ho o1 o4 o5 o6 o7 o8 o9 o10 o11 o12 o13 o14 o15 o16 o17 o18
  obtain ⟨hr,ho,o1,o4,o5,o6,o7,o8,o9,o10,o11,o12,o13,o14,o15,o16,o17,o18⟩:=HF.out _ HB12.out
  go_wp2_with (first | refine ldR C r _ (by rfl) rfl rfl hr h25 ?_ | refine ldO O ro _ (by rfl) rfl rfl ho h19 ?_)
  refine (show Calls _ _ _ _ _ from st_nil _ _ _ _ _).mono ?_
  rintro e w13 ⟨rfl,hb⟩
  have HB13:Hid (Below W1.heap.size W1 w13):=HB12.out.trans (hb.mono HB12.out.size)
  clear hb hr ho o1 o4 o5 o6 o7 o8 o9 o10 o11 o12 o13 o14 o15 o16 o17 o18
  obtain ⟨hr,ho,o1,o4,o5,o6,o7,o8,o9,o10,o11,o12,o13,o14,o15,o16,o17,o18⟩:=HF.out _ HB13.out
  go_wp2_with (first | refine ldR C r _ (by rfl) rfl rfl hr h25 ?_ | refine ldO O ro _ (by rfl) rfl rfl ho h19 ?_)
  refine (show Calls _ _ _ _ _ from HP.out.qField _ (HUP.out _ HB13.out)).mono ?_
  rintro e w14 ⟨rfl,hb⟩
  have HB14:Hid (Below W1.heap.size W1 w14):=HB13.out.trans (hb.mono HB13.out.size)
  clear hb hr ho o1 o4 o5 o6 o7 o8 o9 o10 o11 o12 o13 o14 o15 o16 o17 o18
  obtain ⟨hr,ho,o1,o4,o5,o6,o7,o8,o9,o10,o11,o12,o13,o14,o15,o16,o17,o18⟩:=HF.out _ HB14.out
  go_wp2_with (first | refine ldR C r _ (by rfl) rfl rfl hr h25 ?_ | refine ldO O ro _ (by rfl) rfl rfl ho h19 ?_)
  refine (show Calls _ _ _ _ _ from HD.out.qField _ (HUP.out _ HB14.out)).mono ?_
  rintro e w15 ⟨rfl,hb⟩
  have HB15:Hid (Below W1.heap.size W1 w15):=HB14.out.trans (hb.mono HB14.out.size)
  clear hb hr ho o1 o4 o5 o6 o7 o8 o9 o10 o11 o12 o13 o14 o15 o16 o17 o18
  obtain ⟨hr,ho,o1,o4,o5,o6,o7,o8,o9,o10,o11,o12,o13,o14,o15,o16,o17,o18⟩:=HF.out _ HB15.out
  go_wp2_with (first | refine ldR C r _ (by rfl) rfl rfl hr h25 ?_ | refine ldO O ro _ (by rfl) rfl rfl ho h19 ?_)
  refine (show Calls _ _ _ _ _ from HP.out.qFields _ (HUP.out _ HB15.out)).mono ?_
  rintro e w16 ⟨q13,c13,rfl,hb⟩
  have HB16:Hid (Below W1.heap.size W1 w16):=HB15.out.trans (hb.mono HB15.out.size)
  clear hb hr ho o1 o4 o5 o6 o7 o8 o9 o10 o11 o12 o13 o14 o15 o16 o17 o18
  obtain ⟨hr,ho,o1,o4,o5,o6,o7,o8,o9,o10,o11,o12,o13,o14,o15,o16,o17,o18⟩:=HF.out _ HB16.out
  go_wp2_with (first | refine ldR C r _ (by rfl) rfl rfl hr h25 ?_ | refine ldO O ro _ (by rfl) rfl rfl ho h19 ?_)
  refine (show Calls _ _ _ _ _ from HD.out.qFields _ (HUP.out _ HB16.out)).mono ?_
  rintro e w17 ⟨q14,c14,rfl,hb⟩
  have HB17:Hid (Below W1.heap.size W1 w17):=HB16.out.trans (hb.mono HB16.out.size)
  clear hb hr ho o1 o4 o5 o6 o7 o8 o9 o10 o11 o12 o13 o14 o15 o16 o17 o18
  obtain ⟨hr,ho,o1,o4,o5,o6,o7,o8,o9,o10,o11,o12,o13,o14,o15,o16,o17,o18⟩:=HF.out _ HB17.out
  go_wp2_with (first | refine ldR C r _ (by rfl) rfl rfl hr h25 ?_ | refine ldO O ro _ (by rfl) rfl rfl ho h19 ?_)
  refine (show Calls _ _ _ _ _ from sf_nil _ _ _ _ _).mono ?_
  rintro e w18 ⟨rfl,hb⟩
  have HB18:Hid (Below W1.heap.size W1 w18):=HB17.out.trans (hb.mono HB17.out.size)
  clear hb hr ho o1 o4 o5 o6 o7 o8 o9 o10 o11 o12 o13 o14 o15 o16 o17 o18
  obtain ⟨hr,ho,o1,o4,o5,o6,o7,o8,o9,o10,o11,o12,o13,o14,o15,o16,o17,o18⟩:=HF.out _ HB18.out
  go_wp2_with (first | refine ldR C r _ (by rfl) rfl rfl hr h25 ?_ | refine ldO O ro _ (by rfl) rfl rfl ho h19 ?_)
  refine (show Calls _ _ _ _ _ from HOR.out _ (HUP.out _ HB18.out)).mono ?_
  rintro e w19 ⟨rfl,hb⟩
  have HB19:Hid (Below W1.heap.size W1 w19):=HB18.out.trans (hb.mono HB18.out.size)
  clear hb hr ho o1 o4 o5 o6 o7 o8 o9 o10 o11 o12 o13 o14 o15 o16 o17 o18
  obtain ⟨hr,ho,o1,o4,o5,o6,o7,o8,o9,o10,o11,o12,o13,o14,o15,o16,o17,o18⟩:=HF.out _ HB19.out
  go_wp2
  go_ret
  exact ⟨rfl,HUP.out _ HB19.out⟩
end Go.Proofs.YtiefeeoellagnaaGreatDoor.V
