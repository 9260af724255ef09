import Derived.Test.YtiefeeoellagnaaGreatDoorAB
import Derived.Test.YtiefeeoellagnaaGreatDoorAC
import Derived.Test.YtiefeeoellagnaaGreatDoorAA
import Derived.Test.YtiefeeoellagnaaGreatDoorAD
import Derived.Test.YtiefeeoellagnaaGreatDoorAG
import Derived.Test.YtiefeeoellagnaaGreatDoorEA
import Derived.Test.YtiefeeoellagnaaGreatDoorShelf
namespace Go.Proofs.YtiefeeoellagnaaGreatDoor.S5
open Go.RowKit IM
set_option linter.unusedVariables false
theorem grown_m {B b:Nat} {W:Int} {w:World} {cs:Array Value} (hB:B ≤ b) (hbk:w.heap[b]?=some (.cells (mcells b (.slice none 0 0) W) 222 (0,0))) (hBw:B ≤ w.heap.size) (hm:cs.size ≤ maxLen) :
    MakerAt B b W [] ((w.setCell ⟨b,1,none⟩ (.slice (some ⟨w.heap.size,0,none⟩) 0 cs.size)).alloc (.cells cs 5)).drew.drew.drew ∧
      Below B w ((w.setCell ⟨b,1,none⟩ (.slice (some ⟨w.heap.size,0,none⟩) 0 cs.size)).alloc (.cells cs 5)).drew.drew.drew:=by
  have hlt:=row_lt hbk
  have hb2:(w.alloc (.cells cs 5)).heap[b]?=some (.cells (mcells b (.slice none 0 0) W) 222 (0,0)):=(heap_alloc_old w _ hlt).trans hbk
  have hown:(w.alloc (.cells cs 5)).ownsRow B 5 1 (.slice (some ⟨w.heap.size,0,none⟩) 0 cs.size) ([]:List UInt8).length (bcells []):=
    ⟨rfl,.inr ⟨w.heap.size,cs.size,cs,rfl,hBw,heap_alloc_new w _,Nat.zero_le _,hm,by simp,by simp [bcells]⟩⟩
  have h:=maker_put hB hb2 hown
  have h2:=((Below.refl B w).alloc hBw (.cells cs 5)).setCell (p:=⟨b,1,none⟩) hB (.slice (some ⟨w.heap.size,0,none⟩) 0 cs.size)
  rw [World.setCell_alloc_past _ b 1 _ hlt] at h h2
  exact ⟨h,h2.drew.drew.drew⟩
set_option maxHeartbeats 1000000 in
set_option maxRecDepth 1000000 in
theorem grow_fresh (B b n:Nat) (W:Int) (w:World) (hB:B ≤ b) (hbk:w.heap[b]?=some (.cells (mcells b (.slice none 0 0) W) 222 (0,0))) (hBw:B ≤ w.heap.size) (hn:n ≤ 281474976710656) :
    Calls Tryz.prog 234 #[.pointer (some ⟨b,0,none⟩),.int .i64 n] w fun e w'=>e=.returned (.tuple #[])∧(MakerAt B b W [] w'∧Below B w w'):=by
  obtain ⟨cs,hrun,hle,hmax⟩:=Lib.run_makeNoZero (P:=Tryz.prog) w.drew #[3] 218 5 Tryz.underlying218 n hn
  have hw:IntKind.i64.wrap (IntKind.i64.wrap 0 + (n:Int))=n:=by
    rw [IntKind.wrap_i64,IntKind.wrap_i64]
    omega
  have hcall:(callFunc 292 #[.int .i64 (IntKind.i64.wrap (IntKind.i64.wrap 0 + (n:Int)))]).run Tryz.prog w.drew=.ok (.value (.slice (some ⟨w.drew.heap.size,0,none⟩) n cs.size)) (w.drew.drew.drew.alloc (.cells cs 5)):=by
    rw [hw,run_callFunc_extern Tryz.func292 (by kernel_rfl) (by kernel_rfl) (by kernel_rfl) (e:=Extern.BytealgMakeNoZero.makeNoZero #[3] #[218]) (by kernel_rfl),hrun]
    rfl
  have hlt:=row_lt hbk
  have c1:w.drew.cell? ⟨b,1,none⟩=some (.slice none 0 0):=by
    have:w.drew.heap[b]?=_:=hbk
    rw [cell_heap this]; rfl
  have hb2:(w.alloc (.cells cs 5)).heap[b]?=some (.cells (mcells b (.slice none 0 0) W) 222 (0,0)):=(heap_alloc_old w _ hlt).trans hbk
  have c2:(w.alloc (.cells cs 5)).cell? ⟨b,1,none⟩=some (.slice none 0 0):=by rw [cell_heap hb2]; rfl
  have f2:(w.alloc (.cells cs 5)).frozen? ⟨b,1,none⟩=false:=Lib.frozen_of_heap hb2 1
  have hcopy:∀ W:World,(Builtin.copy_ #[218,218] 3 #[.slice (some ⟨w.heap.size,0,none⟩) 0 cs.size,.slice none 0 0]).run Tryz.prog W=.ok (goInt 0) W:=
    fun W=>run_copy_none W 218 218 3 5 _ _ 0 cs.size 0 0 Tryz.underlying218 (by kernel_rfl) rfl
  clear hw hb2
  have hfin:=grown_m (cs:=cs) hB hbk hBw (hmax (by unfold maxLen; omega))
  have HFIN:Hid _:=hfin
  clear hfin
  go_enter Tryz.func234,Tryz.ntmps234
  go_wp2
  go_region
  all_goals (go_wp2; go_end0; exact ⟨rfl,HFIN.out⟩)
end Go.Proofs.YtiefeeoellagnaaGreatDoor.S5
namespace Go.Proofs.YtiefeeoellagnaaGreatDoor.S5
open Go.RowKit IM
set_option linter.unusedVariables false
set_option maxHeartbeats 1000000 in
set_option maxRecDepth 1000000 in
theorem Grow_fresh (B b n:Nat) (W:Int) (w:World) (hB:B ≤ b) (hbk:w.heap[b]?=some (.cells #[.pointer none,.slice none 0 0,.int .i64 W] 222 (0,0))) (hBw:B ≤ w.heap.size) (hn0:0 < n) (hn:n ≤ 281474976710656) :
    Calls Tryz.prog 195 #[.pointer (some ⟨b,0,none⟩),.int .i64 n] w fun e w'=>e=.returned (.tuple #[])∧(MakerAt B b W [] w'∧Below B w w'):=by
  have hc:=copyCheck_fresh b w (by rw [cell_heap hbk]; rfl) (by simp [World.shape?,hbk]) (Lib.frozen_of_heap hbk 0)
  have hbk1:(w.setCell ⟨b,0,none⟩ (.pointer (some ⟨b,0,none⟩))).heap[b]?=some (.cells (mcells b (.slice none 0 0) W) 222 (0,0)):=by
    simp [World.setCell,Array.getElem?_modify,hbk,mcells]
  have hb1:Below B w (w.setCell ⟨b,0,none⟩ (.pointer (some ⟨b,0,none⟩))):=(Below.refl B w).setCell (p:=⟨b,0,none⟩) hB _
  have hsz:(w.setCell ⟨b,0,none⟩ (.pointer (some ⟨b,0,none⟩))).heap.size=w.heap.size:=by simp [World.setCell]
  generalize w.setCell ⟨b,0,none⟩ (.pointer (some ⟨b,0,none⟩))=W1 at *
  have c1:W1.cell? ⟨b,1,none⟩=some (.slice none 0 0):=by rw [cell_heap hbk1]; rfl
  have HGR:Hid (∀ k,Calls Tryz.prog 234 #[.pointer (some ⟨b,0,none⟩),.int .i64 n] (W1.drewN k) fun e w'=>e=.returned (.tuple #[])∧(MakerAt B b W [] w'∧Below B (W1.drewN k) w')):=fun k=>grow_fresh B b n W (W1.drewN k) hB hbk1 (by show B ≤ W1.heap.size; omega) hn
  have HB1:Hid (Below B w W1):=hb1
  have hnz:(0:Int) < (n:Int):=by omega
  have hcap:∀ x:Int,x < (n:Int) → True:=fun _ _=>trivial
  clear hbk1 hb1 hbk hcap
  go_enter Tryz.func195,Tryz.ntmps195
  go_wp2_with fail
  refine hc.mono ?_
  rintro e w1 ⟨rfl,hw1⟩
  subst w1
  go_wp2
  go_quiet (fail)
  go_wp2_with fail
  refine (HGR.out _).mono ?_
  rintro e w2 ⟨rfl,hm,hb2⟩
  have HM:Hid (MakerAt B b W [] w2):=hm
  have HBB:Hid (Below B w w2):=(below_dn HB1.out _).trans hb2
  clear hm hb2
  go_wp2
  go_end0
  exact ⟨rfl,HM.out,HBB.out⟩
end Go.Proofs.YtiefeeoellagnaaGreatDoor.S5
namespace Go.Proofs.YtiefeeoellagnaaGreatDoor.S6
open Go.RowKit
set_option linter.unusedVariables false
end Go.Proofs.YtiefeeoellagnaaGreatDoor.S6
namespace Go.Proofs.YtiefeeoellagnaaGreatDoor.S6
open Go.RowKit Go.Shelf
set_option linter.unusedVariables false
attribute [local go_sem] Oper.semAt_some
end Go.Proofs.YtiefeeoellagnaaGreatDoor.S6
namespace Go.Proofs.YtiefeeoellagnaaGreatDoor.S6
open Go.RowKit
set_option linter.unusedVariables false
attribute [local go_sem] Oper.semAt_some
theorem ents_pl (l:List LM.Item) (x:LM.Ent) (h:x ∈ LM.entsFrom 0 0 l):∃ j,∃ hj:j < l.length,x=⟨j,l[j],LM.bsum (l.take j),LM.dsize l[j]⟩:=by
  obtain ⟨j,hj⟩:=List.getElem?_of_mem h
  have hlt:j < l.length:=by
    have:=(List.getElem?_eq_some_iff.1 hj).1
    rwa [LM.ents_len] at this
  have:=LM.ents_get l 0 0 j hlt
  simp only [Nat.zero_add] at this
  exact ⟨j,hlt,Option.some.inj (hj.symm.trans this)⟩
end Go.Proofs.YtiefeeoellagnaaGreatDoor.S6
namespace Go.Proofs.YtiefeeoellagnaaGreatDoor.S8
open Go.RowKit
set_option linter.unusedVariables false
theorem clone_any (s:ByteArray) (hs:s.size ≤ 281474976710656) (w:World):Calls Tryz.prog 77 #[.string s] w fun e w'=>e=.returned (.string s)∧Below w.heap.size w w':=by
  have HC:Hid _:=Tryz.stringslite_Clone s w hs
  go_enter Tryz.func77,Tryz.ntmps77
  go_wp2_with fail
  refine (show Calls _ _ _ _ _ from HC.out).mono ?_
  rintro e w1 ⟨rfl,hb⟩
  have HB:Hid (Below w.heap.size w w1):=hb
  clear hb
  go_wp2
  go_returns
  exact ⟨rfl,HB.out⟩
structure DW (W:World) (g B E c:Nat) (v:ByteArray):Prop where
  d:W.heap[g]?=some (.cells (dcells (some ⟨B,0,none⟩) 4 4 1) 487)
  b:W.heap[B]?=some (.cells (bcells (.slice (some ⟨E,0,none⟩) 1 c)) 539)
  o:One W E c v
theorem DW.on {W W':World} {g B E c:Nat} {v:ByteArray} (h:DW W g B E c v) (hb:Below W.heap.size W W'):DW W' g B E c v:=⟨keep_row h.d hb,keep_row h.b hb,h.o.on hb⟩
end Go.Proofs.YtiefeeoellagnaaGreatDoor.S8
namespace Go.Proofs.YtiefeeoellagnaaGreatDoor.S8
open Go.RowKit
set_option linter.unusedVariables false
theorem hash_a:bits .and .i64 (hashT 0 ⟨#[97]⟩) 3=1:=by kernel_rfl
theorem hash_call (w:World):∃ H,bits .and .i64 H 3=1∧∀ W:World,Calls Tryz.prog 356 #[.int .i64 0,.string ⟨#[97]⟩] W fun e w'=>e=.returned (.int .i64 H)∧w'=W:=⟨_,hash_a,fun W=>Hash_any 0 ⟨#[97]⟩ (by decide) W⟩
set_option maxHeartbeats 2000000 in
set_option maxRecDepth 100000 in
theorem Set_new (g:Nat) (v:ByteArray) (w:World) (hg:w.heap[g]?=some (.cells (dcells none 0 0 0) 487)) :
    Calls Tryz.prog 353 #[.pointer (some ⟨g,0,none⟩),.string ⟨#[97]⟩,.string v] w fun e w'=>e=.returned (.bool true)∧∃ B E c,g < B∧g < E∧DW w' g B E c v∧Md g g w w':=by
  obtain ⟨H,hh,hHC⟩:=hash_call w
  have HHC:Hid _:=hHC
  have HGL:Hid (g < w.heap.size):=row_lt hg
  have HG:Hid _:=hg
  obtain ⟨c0,c1,c2,c3,c4,c5,cf⟩:=row6 hg
  have HST:Hid _:=step_no g none 0 w c3
  have HFN:Hid _:=find_nil g none none 0 0 H ⟨#[97]⟩ w c1 c3
  have HMR:Hid _:=makeRoom_0 g w hg
  have HCL:Hid _:=clone_any ⟨#[97]⟩ (by decide)
  have HAD:Hid (∀ B W,g ≤ B → W.heap[g]?=some (.cells (dcells (some ⟨B,0,none⟩) 4 4 0) 487) → W.heap[B]?=some (.cells (bcells (.slice none 0 0)) 539) → Calls Tryz.prog 390 #[.pointer (some ⟨g,1,none⟩),.int .i64 H,.agg #[.string ⟨#[97]⟩,.string v]] W fun e w'=>e=.returned (.tuple #[])∧∃ E c,W.heap.size ≤ E∧w'.heap[g]?=some (.cells (dcells (some ⟨B,0,none⟩) 4 4 1) 487)∧w'.heap[B]?=some (.cells (bcells (.slice (some ⟨E,0,none⟩) 1 c)) 539)∧One w' E c v∧Md g B W w'):=fun B W hB h1 h2=>add_new H hh g B v W h1 h2
  clear hg hHC
  go_enter Tryz.func353,Tryz.ntmps353
  go_wp2_with fail
  refine (show Calls _ _ _ _ _ from HST.out).mono ?_
  rintro e w1 ⟨rfl,rfl⟩
  go_wp2_with fail
  refine (show Calls _ _ _ _ _ from HHC.out _).mono ?_
  rintro e w1 ⟨rfl,rfl⟩
  go_wp2_with fail
  refine (show Calls _ _ _ _ _ from HFN.out).mono ?_
  rintro e w1 ⟨rfl,rfl⟩
  go_wp2_with fail
  refine (show Calls _ _ _ _ _ from HMR.out).mono ?_
  rintro e w2 ⟨rfl,B,hB,hg2,hB2,hs2,hb2⟩
  have HG2:Hid _:=hg2
  have HB2:Hid (w2.heap[B]?=some (.cells (bcells (.slice none 0 0)) 539)):=hB2
  have HBG:Hid (g < B):=by have:=HGL.out; show _ < _; omega
  have HBW:Hid (w1.heap.size ≤ B):=hB
  have HL2:Hid (Md g g w1 w2):=hb2
  clear hg2 hB2 hs2 hb2 hB c0 c1 c2 c3 c4 c5 cf
  go_wp2_with fail
  refine (show Calls _ _ _ _ _ from HCL.out _).mono ?_
  rintro e w3 ⟨rfl,hb3⟩
  have HG3:Hid _:=keep_row HG2.out hb3
  have HB3:Hid _:=keep_row HB2.out hb3
  have hgl2:=row_lt HG2.out
  have HL3:Hid (Md g g w1 w3):=HL2.out.trans (Md.of hb3)
  clear hb3
  have HX:Hid _:=one_alloc w3 (.cells #[.string ⟨#[97]⟩,.string v] 518)
  obtain ⟨W4,hW4⟩:∃ W4,W4=w3.alloc (.cells #[.string ⟨#[97]⟩,.string v] 518):=⟨_,rfl⟩
  have hb4:Below w3.heap.size w3 W4:=by rw [hW4]; exact (Below.refl _ _).alloc (Nat.le_refl _) _
  rw [← hW4] at HX
  have HG4:Hid _:=keep_row HG3.out hb4
  have HB4:Hid _:=keep_row HB3.out hb4
  have hgl3:=row_lt HG3.out
  have HL4:Hid (Md g g w1 W4):=HL3.out.trans (Md.of hb4)
  clear hb4
  go_upto_region 9 with fail
  rw [← hW4]
  clear hW4
  obtain ⟨c0,c1,c2,c3,c4,c5,cf⟩:=row6 HG4.out
  have HMV:Hid _:=moves_no g none 0 W4 c3
  go_wp2_with fail
  refine (show Calls _ _ _ _ _ from HMV.out).mono ?_
  rintro e w5 ⟨rfl,rfl⟩
  obtain ⟨x0,x1,xf⟩:=row2 HX.out
  go_wp2_with fail
  have HAD1:Hid (Calls Tryz.prog 390 #[.pointer (some ⟨g,1,none⟩),.int .i64 H,.agg #[.string ⟨#[97]⟩,.string v]] w5.drew fun e w'=>e=.returned (.tuple #[])∧∃ E c,w5.heap.size ≤ E∧w'.heap[g]?=some (.cells (dcells (some ⟨B,0,none⟩) 4 4 1) 487)∧w'.heap[B]?=some (.cells (bcells (.slice (some ⟨E,0,none⟩) 1 c)) 539)∧One w' E c v∧Md g B w5 w'):=by
    have hbg:=HBG.out
    refine Calls.mono (HAD.out B w5.drew (by omega) HG4.out HB4.out) ?_
    rintro e w6 ⟨rfl,E,c,h1,h2,h3,h4,h5⟩
    exact ⟨rfl,E,c,h1,h2,h3,h4,(Md.of (Below.refl _ _).drew).trans h5⟩
  go_region_with (go_at_call 390; refine (show Calls _ _ _ _ _ from HAD1.out).mono ?_; rintro e w6 ⟨rfl,E,c,hE,hg6,hB6,hO6,hb6⟩)
  all_goals
    go_wp2
    go_returns
    have hgl:=row_lt HG4.out
    exact ⟨rfl,B,E,c,HBG.out,by omega,⟨hg6,hB6,hO6⟩,(HL4.out.wide.trans hb6).tight HBW.out⟩
end Go.Proofs.YtiefeeoellagnaaGreatDoor.S8
namespace Go.Proofs.YtiefeeoellagnaaGreatDoor.S8
open Go.RowKit
set_option linter.unusedVariables false
set_option maxHeartbeats 1000000 in
set_option maxRecDepth 100000 in
theorem Get_one (g B E c:Nat) (v:ByteArray) (w:World) (hD:DW w g B E c v) :
    Calls Tryz.prog 352 #[.pointer (some ⟨g,0,none⟩),.string ⟨#[97]⟩] w fun e w'=>e=.returned (.tuple #[.string v,.bool true])∧Below w.heap.size w w':=by
  obtain ⟨H,hh,hHC⟩:=hash_call w
  have HHC:Hid _:=hHC
  have HD:Hid (DW w g B E c v):=hD
  obtain ⟨c0,c1,c2,c3,c4,c5,cf⟩:=row6 hD.d
  have ho:=hD.o.cells
  have HFN:Hid _:=find_one H hh g B E c v w c1 hD.b ho.1 ho.2.1
  clear hHC hD ho
  go_enter Tryz.func352,Tryz.ntmps352
  go_wp2_with fail
  refine (show Calls _ _ _ _ _ from HHC.out _).mono ?_
  rintro e w1 ⟨rfl,rfl⟩
  go_wp2_with fail
  refine (show Calls _ _ _ _ _ from HFN.out).mono ?_
  rintro e w2 ⟨rfl,hb2⟩
  have HD2:Hid (DW w2 g B E c v):=HD.out.on hb2
  have HL2:Hid (Below _ w1 w2):=hb2
  clear hb2 c0 c1 c2 c3 c4 c5 cf
  obtain ⟨e0,e1,ef⟩:=HD2.out.o.cells
  go_wp2
  go_returns
  exact ⟨rfl,HL2.out⟩
def left (c:Int):Nat:=if c=0 then 3 else if c=2 then 2 else if c=1 then 1 else 0
end Go.Proofs.YtiefeeoellagnaaGreatDoor.S8
