import Derived.Test.YtiefeeoellagnaaGreatDoorFC
import Derived.Test.YtiefeeoellagnaaGreatDoorAB
namespace Go.Proofs.YtiefeeoellagnaaGreatDoor.S5.P
open Go.RowKit IM
set_option linter.unusedVariables false
theorem grown_m {B b:Nat} {W:Int} {w:World} {cs:Array Value} (hB:B ≤ b) (hbk:w.heap[b]?=some (.cells (mcells b (.slice none 0 0) W) 220 (0,0))) (hBw:B ≤ w.heap.size) (hm:cs.size ≤ maxLen) :
    MakerAt B b W [] ((w.setCell ⟨b,1,none⟩ (.slice (some ⟨w.heap.size,0,none⟩) 0 cs.size)).alloc (.cells cs 5)).drew.drew.drew ∧
      Below B w ((w.setCell ⟨b,1,none⟩ (.slice (some ⟨w.heap.size,0,none⟩) 0 cs.size)).alloc (.cells cs 5)).drew.drew.drew:=by
  have hlt:=row_lt hbk
  have hb2:(w.alloc (.cells cs 5)).heap[b]?=some (.cells (mcells b (.slice none 0 0) W) 220 (0,0)):=(heap_alloc_old w _ hlt).trans hbk
  have hown:(w.alloc (.cells cs 5)).ownsRow B 5 1 (.slice (some ⟨w.heap.size,0,none⟩) 0 cs.size) ([]:List UInt8).length (bcells []):=
    ⟨rfl,.inr ⟨w.heap.size,cs.size,cs,rfl,hBw,heap_alloc_new w _,Nat.zero_le _,hm,by simp,by simp [bcells]⟩⟩
  have h:=maker_put hB hb2 hown
  have h2:=((Below.refl B w).alloc hBw (.cells cs 5)).setCell (p:=⟨b,1,none⟩) hB (.slice (some ⟨w.heap.size,0,none⟩) 0 cs.size)
  rw [World.setCell_alloc_past _ b 1 _ hlt] at h h2
  exact ⟨h,h2.drew.drew.drew⟩
set_option maxHeartbeats 1000000 in
set_option maxRecDepth 1000000 in
theorem grow_fresh (B b n:Nat) (W:Int) (w:World) (hB:B ≤ b) (hbk:w.heap[b]?=some (.cells (mcells b (.slice none 0 0) W) 220 (0,0))) (hBw:B ≤ w.heap.size) (hn:n ≤ 281474976710656) :
    Calls Tryz.prog 234 #[.pointer (some ⟨b,0,none⟩),.int .i64 n] w fun e w'=>e=.returned (.tuple #[])∧(MakerAt B b W [] w'∧Below B w w'):=by
  obtain ⟨cs,hrun,hle,hmax⟩:=Lib.run_makeNoZero (P:=Tryz.prog) w.drew #[3] 218 5 Tryz.underlying218 n hn
  have hw:IntKind.i64.wrap (IntKind.i64.wrap 0 + (n:Int))=n:=by
    rw [IntKind.wrap_i64,IntKind.wrap_i64]
    omega
  have hcall:(callFunc 292 #[.int .i64 (IntKind.i64.wrap (IntKind.i64.wrap 0 + (n:Int)))]).run Tryz.prog w.drew=.ok (.value (.slice (some ⟨w.drew.heap.size,0,none⟩) n cs.size)) (w.drew.drew.drew.alloc (.cells cs 5)):=by
    rw [hw,run_callFunc_extern Tryz.func292 (by kernel_rfl) (by kernel_rfl) (by kernel_rfl) (e:=Extern.BytealgMakeNoZero.makeNoZero #[3] #[218]) (by kernel_rfl),hrun]
    rfl
  have hlt:=row_lt hbk
  have c1:w.drew.cell? ⟨b,1,none⟩=some (.slice none 0 0):=by
    have:w.drew.heap[b]?=_:=hbk
    rw [cell_heap this]; rfl
  have hb2:(w.alloc (.cells cs 5)).heap[b]?=some (.cells (mcells b (.slice none 0 0) W) 220 (0,0)):=(heap_alloc_old w _ hlt).trans hbk
  have c2:(w.alloc (.cells cs 5)).cell? ⟨b,1,none⟩=some (.slice none 0 0):=by rw [cell_heap hb2]; rfl
  have f2:(w.alloc (.cells cs 5)).frozen? ⟨b,1,none⟩=false:=Lib.frozen_of_heap hb2 1
  have hcopy:∀ W:World,(Builtin.copy_ #[218,218] 3 #[.slice (some ⟨w.heap.size,0,none⟩) 0 cs.size,.slice none 0 0]).run Tryz.prog W=.ok (goInt 0) W:=
    fun W=>run_copy_none W 218 218 3 5 _ _ 0 cs.size 0 0 Tryz.underlying218 (by kernel_rfl) rfl
  clear hw hb2
  have hfin:=grown_m (cs:=cs) hB hbk hBw (hmax (by unfold maxLen; omega))
  have HFIN:Hid _:=hfin
  clear hfin
  go_enter Tryz.func234,Tryz.ntmps234
  go_wp2
  go_region
  all_goals (go_wp2; go_end0; exact ⟨rfl,HFIN.out⟩)
end Go.Proofs.YtiefeeoellagnaaGreatDoor.S5.P
namespace Go.Proofs.YtiefeeoellagnaaGreatDoor.S5.P
open Go.RowKit IM
set_option linter.unusedVariables false
set_option maxHeartbeats 1000000 in
set_option maxRecDepth 1000000 in
theorem Grow_fresh (B b n:Nat) (W:Int) (w:World) (hB:B ≤ b) (hbk:w.heap[b]?=some (.cells #[.pointer none,.slice none 0 0] 220 (0,0))) (hBw:B ≤ w.heap.size) (hn0:0 < n) (hn:n ≤ 281474976710656) :
    Calls Tryz.prog 195 #[.pointer (some ⟨b,0,none⟩),.int .i64 n] w fun e w'=>e=.returned (.tuple #[])∧(MakerAt B b W [] w'∧Below B w w'):=by
  have hc:=copyCheck_fresh b w (by rw [cell_heap hbk]; rfl) (by simp [World.shape?,hbk]) (Lib.frozen_of_heap hbk 0)
  have hbk1:(w.setCell ⟨b,0,none⟩ (.pointer (some ⟨b,0,none⟩))).heap[b]?=some (.cells (mcells b (.slice none 0 0) W) 220 (0,0)):=by
    simp [World.setCell,Array.getElem?_modify,hbk,mcells]
  have hb1:Below B w (w.setCell ⟨b,0,none⟩ (.pointer (some ⟨b,0,none⟩))):=(Below.refl B w).setCell (p:=⟨b,0,none⟩) hB _
  have hsz:(w.setCell ⟨b,0,none⟩ (.pointer (some ⟨b,0,none⟩))).heap.size=w.heap.size:=by simp [World.setCell]
  generalize w.setCell ⟨b,0,none⟩ (.pointer (some ⟨b,0,none⟩))=W1 at *
  have c1:W1.cell? ⟨b,1,none⟩=some (.slice none 0 0):=by rw [cell_heap hbk1]; rfl
  have HGR:Hid (∀ k,Calls Tryz.prog 234 #[.pointer (some ⟨b,0,none⟩),.int .i64 n] (W1.drewN k) fun e w'=>e=.returned (.tuple #[])∧(MakerAt B b W [] w'∧Below B (W1.drewN k) w')):=fun k=>grow_fresh B b n W (W1.drewN k) hB hbk1 (by show B ≤ W1.heap.size; omega) hn
  have HB1:Hid (Below B w W1):=hb1
  have hnz:(0:Int) < (n:Int):=by omega
  have hcap:∀ x:Int,x < (n:Int) → True:=fun _ _=>trivial
  clear hbk1 hb1 hbk hcap
  go_enter Tryz.func195,Tryz.ntmps195
  go_wp2_with fail
  refine hc.mono ?_
  rintro e w1 ⟨rfl,hw1⟩
  subst w1
  go_wp2
  go_quiet (fail)
  go_wp2_with fail
  refine (HGR.out _).mono ?_
  rintro e w2 ⟨rfl,hm,hb2⟩
  have HM:Hid (MakerAt B b W [] w2):=hm
  have HBB:Hid (Below B w w2):=(below_dn HB1.out _).trans hb2
  clear hm hb2
  go_wp2
  go_end0
  exact ⟨rfl,HM.out,HBB.out⟩
end Go.Proofs.YtiefeeoellagnaaGreatDoor.S5.P
