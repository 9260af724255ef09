import Derived.Test.YtiefeeoellagnaaGreatDoorGD
import Derived.Test.YtiefeeoellagnaaGreatDoorAM
import Derived.Stop.Asserts
namespace Go.Proofs.YtiefeeoellagnaaGreatDoor.V
open Go.RowKit
open S6 (Laid Lay)
set_option linter.unusedVariables false
set_option linter.unusedSimpArgs false
def EP:ByteArray:=⟨#[7,0,0,0,0,0,255]⟩
theorem EP_pk:S6.LM.Pk EP.data.toList []:=⟨by simp,by simp,by decide,by decide⟩
open Classical in
theorem new_nil (q:Option Addr) (c:Nat) (w:World) (hw:Lay w):Calls Tryz.prog 198 #[.slice q 0 c] w fun e w'=>e=.returned (.tuple #[.string EP,.int .i64 0])∧Below w.heap.size w w':=by
  have h:=S6.New_any (.slice q 0 c) [] (by simp) (by simp) w (Or.inl ⟨rfl,q,c,rfl⟩) hw
  have hf:S6.fitI [] 0 0 []:=⟨by simp,by simp,by decide⟩
  unfold S6.outS at h
  rw [if_pos hf] at h
  exact h
def pkC (T:Nat) (n s wd we:Int) (p:ByteArray) (z x:Int):Obj:=.cells #[.int .i64 n,.int .i64 s,.int .i64 wd,.int .i64 we,.string p,.int .i64 z,.int .i64 x] T
theorem row7 {w:World} {g T:Nat} {v0 v1 v2 v3 v4 v5 v6:Value} (h:w.heap[g]?=some (.cells #[v0,v1,v2,v3,v4,v5,v6] T)) :
    w.cell? ⟨g,0,none⟩=some v0∧w.cell? ⟨g,1,none⟩=some v1∧w.cell? ⟨g,2,none⟩=some v2∧w.cell? ⟨g,3,none⟩=some v3∧w.cell? ⟨g,4,none⟩=some v4∧w.cell? ⟨g,5,none⟩=some v5∧w.cell? ⟨g,6,none⟩=some v6∧∀ j,w.frozen? ⟨g,j,none⟩=false:=by
  refine ⟨?_,?_,?_,?_,?_,?_,?_,fun j=>frozen_of_row _ _ _ _ _ h⟩ <;> rw [cell_of_row _ _ _ _ _ _ h] <;> rfl
set_option maxHeartbeats 1000000 in
set_option maxRecDepth 20000 in
theorem hold_nil (T b:Nat) (n s wd we z x:Int) (hwd:wd=1 ∨ wd=2) (p:ByteArray) (q:Option Addr) (c:Nat) (w:World) (hw:Lay w) (hb:w.heap[b]?=some (pkC T n s wd we p z x)) :
    Calls Tryz.prog 136 #[.pointer (some ⟨b,0,none⟩),.slice q 0 c] w fun e w'=>e=.returned (.tuple #[])∧w'.heap[b]?=some (pkC T n s wd we EP 0 0)∧Mod b w w':=by
  have HN:Hid _:=new_nil q c w hw
  have HB:Hid _:=hb
  have hne:¬ wd=0:=by omega
  have hq:Int.tdiv 0 wd=0:=by simp
  generalize EP=E at *
  clear hb hw
  go_enter Tryz.func136,Tryz.ntmps136
  go_wp2_with fail
  refine (show Calls _ _ _ _ _ from HN.out).mono ?_
  rintro e w1 ⟨rfl,hb1⟩
  have h1:=keep_row HB.out hb1
  have HB1:Hid (w1.heap[b]?=some (pkC T n s wd we p z x)):=h1
  have HM1:Hid (Mod b w w1):=Mod.of hb1
  unfold pkC at h1
  obtain ⟨c0,c1,c2,c3,c4,c5,c6,cf⟩:=row7 h1
  clear h1 hb1
  go_upto_region 1 with fail
  obtain ⟨W2,hW2⟩:∃ W2,W2=w1.setCell ⟨b,4,none⟩ (.string E):=⟨_,rfl⟩
  have h2:W2.heap[b]?=some (pkC T n s wd we E z x):=by rw [hW2,heap_setCell_same _ _ _ _ _ _ HB1.out]; rfl
  have HB2:Hid (W2.heap[b]?=some (pkC T n s wd we E z x)):=h2
  have HM2:Hid (Mod b w W2):=HM1.out.trans (Mod.only (by rw [hW2]; exact (Only.refl _ _).set _ _))
  rw [← hW2]
  clear hW2 c0 c1 c2 c3 c4 c5 c6 cf
  unfold pkC at h2
  obtain ⟨c0,c1,c2,c3,c4,c5,c6,cf⟩:=row7 h2
  clear h2
  go_upto_region 2 with fail
  obtain ⟨W3,hW3⟩:∃ W3,W3=W2.setCell ⟨b,5,none⟩ (.int .i64 0):=⟨_,rfl⟩
  have h3:W3.heap[b]?=some (pkC T n s wd we E 0 x):=by rw [hW3,heap_setCell_same _ _ _ _ _ _ HB2.out]; rfl
  have HB3:Hid (W3.heap[b]?=some (pkC T n s wd we E 0 x)):=h3
  have HM3:Hid (Mod b w W3):=HM2.out.trans (Mod.only (by rw [hW3]; exact (Only.refl _ _).set _ _))
  rw [← hW3]
  clear hW3 c0 c1 c2 c3 c4 c5 c6 cf
  unfold pkC at h3
  obtain ⟨c0,c1,c2,c3,c4,c5,c6,cf⟩:=row7 h3
  clear h3
  go_wp2
  go_rounds 1
  go_wp2
  go_returns
  refine ⟨rfl,?_,HM3.out.trans (Mod.only ((Only.refl _ _).set _ _))⟩
  rw [heap_setCell_same _ _ _ _ _ _ HB3.out]; rfl
theorem heap_set7 (w:World) (g T:Nat) (a b c d e f h v0 v1 v2 v3 v4 v5 v6:Value) (hh:w.heap[g]?=some (.cells #[a,b,c,d,e,f,h] T)) :
    (((((((w.setCell ⟨g,0,none⟩ v0).setCell ⟨g,1,none⟩ v1).setCell ⟨g,2,none⟩ v2).setCell ⟨g,3,none⟩ v3).setCell ⟨g,4,none⟩ v4).setCell ⟨g,5,none⟩ v5).setCell ⟨g,6,none⟩ v6).heap[g]?=some (.cells #[v0,v1,v2,v3,v4,v5,v6] T)∧Only w (((((((w.setCell ⟨g,0,none⟩ v0).setCell ⟨g,1,none⟩ v1).setCell ⟨g,2,none⟩ v2).setCell ⟨g,3,none⟩ v3).setCell ⟨g,4,none⟩ v4).setCell ⟨g,5,none⟩ v5).setCell ⟨g,6,none⟩ v6) g:=by
  refine ⟨?_,(((((((Only.refl w g).set _ _).set _ _).set _ _).set _ _).set _ _).set _ _).set _ _⟩
  rw [heap_setCell_same _ _ _ _ _ _ (heap_setCell_same _ _ _ _ _ _ (heap_setCell_same _ _ _ _ _ _ (heap_setCell_same _ _ _ _ _ _ (heap_setCell_same _ _ _ _ _ _ (heap_setCell_same _ _ _ _ _ _ (heap_setCell_same _ _ _ _ _ _ hh))))))]; rfl
set_option maxHeartbeats 1000000 in
set_option maxRecDepth 20000 in
theorem newPacked_any (n s wd we:Int) (hwd:wd=1 ∨ wd=2) (w:World) (hw:Lay w) :
    Calls Tryz.prog 65 #[.agg #[.int .i64 n,.int .i64 s],.int .i64 wd,.int .i64 we] w fun e w'=>e=.returned (.agg #[.int .i64 n,.int .i64 s,.int .i64 wd,.int .i64 we,.string EP,.int .i64 0,.int .i64 0])∧Below w.heap.size w w':=by
  obtain ⟨E,hE⟩:∃ E,E=EP:=⟨_,rfl⟩
  rw [← hE]
  obtain ⟨W1,hW1⟩:∃ W1,W1=((w.alloc (.cells #[.int .i64 n,.int .i64 s] 134)).alloc (.cells #[.int .i64 0,.int .i64 0,.int .i64 0,.int .i64 0,.string ⟨#[]⟩,.int .i64 0,.int .i64 0] 138)).alloc (.cells #[.int .i64 n,.int .i64 s,.int .i64 wd,.int .i64 we,.string ⟨#[]⟩,.int .i64 0,.int .i64 0] 138):=⟨_,rfl⟩
  go_enter Tryz.func65,Tryz.ntmps65
  go_wp2_with fail
  rw [← hW1]
  obtain ⟨r,hr⟩:∃ r,w.heap.size=r:=⟨_,rfl⟩
  have hs0:(w.alloc (.cells #[.int .i64 n,.int .i64 s] 134)).heap.size=r + 1:=by simp [hr]
  have hs1:((w.alloc (.cells #[.int .i64 n,.int .i64 s] 134)).alloc (.cells #[.int .i64 0,.int .i64 0,.int .i64 0,.int .i64 0,.string ⟨#[]⟩,.int .i64 0,.int .i64 0] 138)).heap.size=r + 1 + 1:=by simp [hr]
  have HB1:Hid (Below w.heap.size w W1):=by
    show Below _ _ _
    rw [hW1]
    exact (((Below.refl _ _).alloc (Nat.le_refl _) _).alloc (by rw [hs0]; omega) _).alloc (by rw [hs1]; omega) _
  have HR1:Hid (W1.heap[r + 1]?=some (.cells #[.int .i64 0,.int .i64 0,.int .i64 0,.int .i64 0,.string ⟨#[]⟩,.int .i64 0,.int .i64 0] 138)):=by
    show _=_
    rw [hW1]
    have:=one_alloc (w.alloc (.cells #[.int .i64 n,.int .i64 s] 134)) (.cells #[.int .i64 0,.int .i64 0,.int .i64 0,.int .i64 0,.string ⟨#[]⟩,.int .i64 0,.int .i64 0] 138)
    rw [hs0] at this
    exact keep_row this ((Below.refl _ _).alloc (Nat.le_refl _) _)
  have HR2:Hid (W1.heap[r + 1 + 1]?=some (pkC 138 n s wd we ⟨#[]⟩ 0 0)):=by
    show _=_
    rw [hW1]
    have:=one_alloc ((w.alloc (.cells #[.int .i64 n,.int .i64 s] 134)).alloc (.cells #[.int .i64 0,.int .i64 0,.int .i64 0,.int .i64 0,.string ⟨#[]⟩,.int .i64 0,.int .i64 0] 138)) (.cells #[.int .i64 n,.int .i64 s,.int .i64 wd,.int .i64 we,.string ⟨#[]⟩,.int .i64 0,.int .i64 0] 138)
    rw [hs1] at this
    exact this
  have HHD:Hid _:=hold_nil 138 (r + 1 + 1) n s wd we 0 0 hwd ⟨#[]⟩ none 0 W1 (hw.on HB1.out) HR2.out
  rw [hr]
  rw [← hE] at HHD
  clear hE
  have HRW:Hid (w.heap.size=r):=hr
  clear hs0 hs1 hW1 hw hr
  refine (show Calls _ _ _ _ _ from HHD.out).mono ?_
  rintro e w2 ⟨rfl,hb2,hm2⟩
  have h1:=hm2.row HR1.out (by omega)
  have HB2:Hid (Below r w w2):=by
    show Below _ _ _
    have h:=HB1.out
    rw [HRW.out] at h
    exact h.trans (hm2.below (by omega) (row_lt HR1.out |> fun h=>by omega))
  have HX1:Hid _:=h1
  unfold pkC at hb2
  obtain ⟨c0,c1,c2,c3,c4,c5,c6,cf⟩:=row7 hb2
  obtain ⟨d0,d1,d2,d3,d4,d5,d6,df⟩:=row7 h1
  clear h1 hb2 hm2
  go_wp2
  obtain ⟨h3,ho⟩:=heap_set7 w2 (r + 1) _ _ _ _ _ _ _ _ (.int .i64 n) (.int .i64 s) (.int .i64 wd) (.int .i64 we) (.string E) (.int .i64 0) (.int .i64 0) HX1.out
  clear c0 c1 c2 c3 c4 c5 c6 cf d0 d1 d2 d3 d4 d5 d6 df
  revert h3 ho
  generalize (((((((w2.setCell ⟨r + 1,0,none⟩ (.int .i64 n)).setCell ⟨r + 1,1,none⟩ (.int .i64 s)).setCell ⟨r + 1,2,none⟩ (.int .i64 wd)).setCell ⟨r + 1,3,none⟩ (.int .i64 we)).setCell ⟨r + 1,4,none⟩ (.string E)).setCell ⟨r + 1,5,none⟩ (.int .i64 0)).setCell ⟨r + 1,6,none⟩ (.int .i64 0))=W3
  intro h3 ho
  obtain ⟨c0,c1,c2,c3,c4,c5,c6,cf⟩:=row7 h3
  refine bodyPost_ret (v:=.agg #[.int .i64 n,.int .i64 s,.int .i64 wd,.int .i64 we,.string E,.int .i64 0,.int .i64 0]) (by simp [results,Tryz.results65,go_sem,c0,c1,c2,c3,c4,c5,c6]) rfl ⟨rfl,?_⟩
  rw [HRW.out]
  exact HB2.out.trans (ho.below (by omega))
end Go.Proofs.YtiefeeoellagnaaGreatDoor.V
namespace Go.Proofs.YtiefeeoellagnaaGreatDoor.V
open Go.RowKit S5.IM
set_option linter.unusedVariables false
set_option linter.unusedSimpArgs false
set_option maxHeartbeats 1000000 in
set_option maxRecDepth 20000 in
theorem newPackHash_any (t:TH) (w:World) (hw:S6.Lay w):Calls Tryz.prog 16 #[thV t] w fun e w'=>∃ b,e=.returned (.pointer (some ⟨b,0,none⟩))∧w.heap.size ≤ b∧w'.heap[b]?=some (pkC 142 t.h t.i 2 2 EP 0 0)∧Below w.heap.size w w':=by
  have HN:Hid (∀ W,Below w.heap.size w W → _):=fun W hW=>newPacked_any t.h t.i 2 2 (Or.inr rfl) W (hw.on hW)
  obtain ⟨a,b,c,d,e,f,g,h,i⟩:=t
  unfold thV
  simp only [] at *
  obtain ⟨W1,hW1⟩:∃ W,W=w.alloc (.cells #[.int .i64 a,.int .i64 b,.int .i64 c,.int .i64 d,.int .i64 e,.int .i64 f,.int .i64 g,.int .i64 h,.int .i64 i] 23):=⟨_,rfl⟩
  have HB:Hid (Below w.heap.size w W1):=by rw [hW1]; exact (Below.refl _ _).alloc (Nat.le_refl _) _
  clear hw
  generalize EP=E at *
  go_enter Tryz.func16,Tryz.ntmps16
  go_wp2_with fail
  rw [← hW1]
  refine (show Calls _ _ _ _ _ from HN.out _ HB.out).mono ?_
  rintro e w2 ⟨rfl,hb2⟩
  have HB2:Hid (Below w.heap.size w w2):=HB.out.trans (hb2.mono HB.out.size)
  clear hb2 hW1
  go_wp2
  go_returns
  exact ⟨_,rfl,HB2.out.size,one_alloc _ _,HB2.out.alloc HB2.out.size _⟩
set_option maxHeartbeats 4000000 in
set_option maxRecDepth 20000 in
theorem New_hash (t:TH) (ht:okT t=true) (w:World) (hw:S6.Lay w):Calls Tryz.prog 5 #[.int .i64 5,thV t] w fun e w'=>∃ bv bs,e=.returned (.tuple #[.pointer (some ⟨bv,0,none⟩),.int .i64 0])∧w.heap.size ≤ bs∧bs < bv∧w'.heap[bs]?=some (pkC 142 t.h t.i 2 2 EP 0 0)∧w'.heap[bv]?=some (vC 5 (.iface 69 (.pointer (some ⟨bs,0,none⟩))))∧Below w.heap.size w w':=by
  have HCK:Hid (∀ W,Calls Tryz.prog 12 #[thV t] W fun e w'=>e=.returned (.int .i64 0)∧Below W.heap.size W w'):=fun W=>by have:=Check_any t W; rw [if_pos ht] at this; exact this
  have HNS:Hid (∀ W,Below w.heap.size w W → Calls Tryz.prog 16 #[thV t] W fun e w'=>∃ b,e=.returned (.pointer (some ⟨b,0,none⟩))∧W.heap.size ≤ b∧w'.heap[b]?=some (pkC 142 t.h t.i 2 2 EP 0 0)∧Below W.heap.size W w'):=fun W hW=>newPackHash_any t W (hw.on hW)
  obtain ⟨OB,hOB⟩:∃ OB,OB=pkC 142 t.h t.i 2 2 EP 0 0:=⟨_,rfl⟩
  rw [← hOB] at HNS ⊢
  obtain ⟨a,b,c,d,e,f,g,h,i⟩:=t
  unfold thV at *
  simp only [] at *
  obtain ⟨W1,hW1⟩:∃ W,W=w.alloc (.cells #[.int .i64 a,.int .i64 b,.int .i64 c,.int .i64 d,.int .i64 e,.int .i64 f,.int .i64 g,.int .i64 h,.int .i64 i] 23):=⟨_,rfl⟩
  obtain ⟨r,hr⟩:∃ r,w.heap.size=r:=⟨_,rfl⟩
  have HA:Hid (W1.heap[r]?=some (.cells #[.int .i64 a,.int .i64 b,.int .i64 c,.int .i64 d,.int .i64 e,.int .i64 f,.int .i64 g,.int .i64 h,.int .i64 i] 23)):=by rw [hW1,← hr]; exact one_alloc _ _
  have HB:Hid (Below w.heap.size w W1):=by rw [hW1]; exact (Below.refl _ _).alloc (Nat.le_refl _) _
  have HKS:Hid (∀ W,Below W1.heap.size W1 W → W.cell? ⟨r,0,none⟩=some (.int .i64 a)∧W.cell? ⟨r,1,none⟩=some (.int .i64 b)∧W.cell? ⟨r,2,none⟩=some (.int .i64 c)∧W.cell? ⟨r,3,none⟩=some (.int .i64 d)∧W.cell? ⟨r,4,none⟩=some (.int .i64 e)∧W.cell? ⟨r,5,none⟩=some (.int .i64 f)∧W.cell? ⟨r,6,none⟩=some (.int .i64 g)∧W.cell? ⟨r,7,none⟩=some (.int .i64 h)∧W.cell? ⟨r,8,none⟩=some (.int .i64 i)):=fun W hW=>by
    refine ⟨?_,?_,?_,?_,?_,?_,?_,?_,?_⟩ <;> rw [cell_of_row _ _ _ _ _ _ (keep_row HA.out hW)] <;> rfl
  obtain ⟨x0,x1,x2,x3,x4,x5,x6,x7,x8⟩:=HKS.out W1 (Below.refl _ _)
  have HRR:Hid (w.heap.size=r):=hr
  have hob:Hid _:=hOB
  clear ht hr hOB
  go_enter Tryz.func5,Tryz.ntmps5
  go_wp2_with fail
  rw [← hW1]
  refine (show Calls _ _ _ _ _ from HCK.out _).mono ?_
  rintro e w2 ⟨rfl,hb2⟩
  have HB2:Hid (Below w.heap.size w w2):=HB.out.trans (hb2.mono HB.out.size)
  rw [HRR.out]
  clear x0 x1 x2 x3 x4 x5 x6 x7 x8
  obtain ⟨x0,x1,x2,x3,x4,x5,x6,x7,x8⟩:=HKS.out w2 hb2
  clear hb2 hW1
  go_wp2_with fail
  refine (show Calls _ _ _ _ _ from HNS.out _ HB2.out).mono ?_
  rintro e w3 ⟨bs,rfl,hbs,hr3,hb3⟩
  have HB3:Hid (Below w.heap.size w w3):=HB2.out.trans (hb3.mono HB2.out.size)
  have HR3:Hid (w3.heap[bs]?=some OB):=hr3
  have HLT:Hid (bs < w3.heap.size):=row_lt hr3
  have HGE:Hid (w.heap.size ≤ bs):=Nat.le_trans HB2.out.size hbs
  clear hb3 hr3 hbs x0 x1 x2 x3 x4 x5 x6 x7 x8
  go_wp2
  go_returns
  exact ⟨w3.heap.size,bs,rfl,HGE.out,HLT.out,keep_row HR3.out ((Below.refl _ _).alloc (Nat.le_refl _) _),one_alloc _ _,HB3.out.alloc HB3.out.size _⟩
end Go.Proofs.YtiefeeoellagnaaGreatDoor.V
namespace Go.Proofs.YtiefeeoellagnaaGreatDoor.V
open Go.RowKit
open S6 (Laid Lay)
set_option linter.unusedVariables false
set_option linter.unusedSimpArgs false
def phB (b:Nat):Value:=.iface 69 (.pointer (some ⟨b,0,none⟩))
theorem ta_hash (v:Value) (xT:TypeId) (w:World):(Instr.typeAssert (.iface 69 v) xT 153 true).run Tryz.prog w=.ok (.tuple #[.iface 69 v,.bool true]) w:=run_typeAssert_hasB Tryz.underlying153 (by kernel_rfl) v xT w
set_option maxRecDepth 20000 in
theorem asHash_pk (bv bs:Nat) (w:World) (h:w.heap[bv]?=some (vC 5 (phB bs))):Calls Tryz.prog 71 #[.pointer (some ⟨bv,0,none⟩)] w fun e w'=>e=.returned (.tuple #[phB bs,.int .i64 0])∧w'=w:=by
  unfold vC phB at *
  obtain ⟨c0,c1,cf⟩:=prow2 h
  clear h
  have hta:=fun W=>ta_hash (.pointer (some ⟨bs,0,none⟩)) 61 W
  go_enter Tryz.func71,Tryz.ntmps71
  go_wp2
  go_returns
  exact ⟨rfl,rfl⟩
set_option maxHeartbeats 1000000 in
set_option maxRecDepth 20000 in
theorem entries_nil (T b:Nat) (n s wd we z x:Int) (w:World) (hw:Lay w) (hb:w.heap[b]?=some (pkC T n s wd we EP z x)) :
    Calls Tryz.prog 242 #[.pointer (some ⟨b,0,none⟩)] w fun e w'=>∃ g,e=.returned (.slice (some ⟨g,0,none⟩) 0 0)∧Below w.heap.size w w':=by
  have HW:Hid (Calls Tryz.prog 305 #[.string EP,.bool false] w fun e w'=>(∃ g,e=.returned (.tuple #[.slice (some ⟨g,0,none⟩) 0 0,.int .i64 0]))∧Below w.heap.size w w'):=(S6.Walk_f EP [] EP_pk w hw).mono (by
    rintro e w' ⟨⟨g,rfl,_⟩,hb⟩
    exact ⟨⟨g,rfl⟩,hb⟩)
  unfold pkC at hb
  obtain ⟨c0,c1,c2,c3,c4,c5,c6,cf⟩:=row7 hb
  generalize EP=E at *
  clear hb hw
  go_enter Tryz.func242,Tryz.ntmps242
  go_wp2_with fail
  refine (show Calls _ _ _ _ _ from HW.out).mono ?_
  rintro e w1 ⟨⟨g,rfl⟩,hb1⟩
  have HB1:Hid _:=hb1
  clear hb1
  go_wp2
  go_ret
  exact ⟨g,rfl,HB1.out⟩
theorem infoF:(Tryz.prog.info? 83).map (fun i=>(i.zero,i.size,i.bytes))=some (some (.agg #[.string ⟨#[]⟩,.string ⟨#[]⟩]),2,32):=by kernel_rfl
theorem info9b:(Tryz.prog.info? 9).map (fun i=>(i.zero,i.size,i.bytes))=some (some (.string ⟨#[]⟩),1,16):=by kernel_rfl
set_option maxHeartbeats 1000000 in
set_option maxRecDepth 20000 in
theorem fieldsOf_nil (q:Option Addr) (c:Nat) (w:World):Calls Tryz.prog 246 #[.slice q 0 c] w fun e w'=>∃ g,e=.returned (.slice (some ⟨g,0,none⟩) 0 0)∧Below w.heap.size w w':=by
  obtain ⟨i0,hi,hz0,hz1,hz2⟩:=info_parts infoF
  have hmk:=fun W=>run_make (P:=Tryz.prog) W 46 83 i0 (.agg #[.string ⟨#[]⟩,.string ⟨#[]⟩]) Tryz.underlying46 hi hz0 .i64 .i64 0 0 (by omega) (by omega) (by rw [hz2]; omega) (by omega)
  simp only [Int.toNat_zero] at hmk
  go_enter Tryz.func246,Tryz.ntmps246
  go_wp2
  go_rounds 1
  go_wp2
  go_returns
  exact ⟨_,rfl,by go_grown⟩
set_option maxHeartbeats 1000000 in
set_option maxRecDepth 20000 in
theorem inTurns_nil (q:Option Addr) (c:Nat) (w:World):Calls Tryz.prog 72 #[.slice q 0 c] w fun e w'=>∃ g,e=.returned (.slice (some ⟨g,0,none⟩) 0 0)∧Below w.heap.size w w':=by
  obtain ⟨i0,hi,hz0,hz1,hz2⟩:=info_parts info9b
  have hmk:=fun W=>run_make (P:=Tryz.prog) W 34 9 i0 (.string ⟨#[]⟩) Tryz.underlying34 hi hz0 .i64 .i64 0 0 (by omega) (by omega) (by rw [hz2]; omega) (by omega)
  simp only [Int.toNat_zero] at hmk
  go_enter Tryz.func72,Tryz.ntmps72
  go_wp2
  go_rounds 1
  go_wp2
  go_returns
  exact ⟨_,rfl,by go_grown⟩
set_option maxHeartbeats 1000000 in
set_option maxRecDepth 20000 in
theorem fields_nil (b:Nat) (n s wd we z x:Int) (w:World) (hw:Lay w) (hb:w.heap[b]?=some (pkC 142 n s wd we EP z x)) :
    Calls Tryz.prog 204 #[.pointer (some ⟨b,0,none⟩)] w fun e w'=>∃ g,e=.returned (.slice (some ⟨g,0,none⟩) 0 0)∧Below w.heap.size w w':=by
  have HE:Hid _:=entries_nil 142 b n s wd we z x w hw hb
  have HLT:Hid (b < w.heap.size):=row_lt hb
  unfold pkC at hb
  obtain ⟨c0,c1,c2,c3,c4,c5,c6,cf⟩:=row7 hb
  clear hb hw
  go_enter Tryz.func204,Tryz.ntmps204
  go_wp2_with fail
  refine (show Calls _ _ _ _ _ from HE.out).mono ?_
  rintro e w1 ⟨g,rfl,hb1⟩
  have HB1:Hid _:=hb1
  clear hb1 c0 c1 c2 c3 c4 c5 c6 cf
  go_wp2_with fail
  refine (show Calls _ _ _ _ _ from fieldsOf_nil _ _ _).mono ?_
  rintro e w2 ⟨g2,rfl,hb2⟩
  have HB2:Hid (Below w.heap.size w w2):=HB1.out.trans (hb2.mono HB1.out.size)
  clear hb2
  go_wp2
  go_ret
  exact ⟨_,rfl,HB2.out⟩
def bigS (s:Int) (x:ByteArray):Bool:=decide (s < (x.size:Int))
set_option maxHeartbeats 1000000 in
set_option maxRecDepth 20000 in
theorem holds_any (n s k:Int) (v:Value) (vs:List ByteArray) (hl:vs.length ≤ 70368744177664) (w:World) (hv:SRow w v vs) :
    Calls Tryz.prog 237 #[.agg #[.int .i64 n,.int .i64 s],.int .i64 k,v] w fun e w'=>e=.returned (.bool (decide (k ≤ n) && !vs.any (bigS s)))∧Below w.heap.size w w':=by
  obtain ⟨W1,hW1⟩:∃ W1,W1=w.alloc (.cells #[.int .i64 n,.int .i64 s] 134):=⟨_,rfl⟩
  have HB1:Hid (Below w.heap.size w W1):=by show Below _ _ _; rw [hW1]; exact (Below.refl _ _).alloc (Nat.le_refl _) _
  have HR1:Hid (W1.heap[w.heap.size]?=some (.cells #[.int .i64 n,.int .i64 s] 134)):=by show _=_; rw [hW1]; exact one_alloc _ _
  have HCF:Hid _:=ContainsFunc_any 302 #[.pointer (some ⟨w.heap.size,0,none⟩)] (bigS s) v vs hl W1 (hv.on HB1.out) (enters_my Tryz.func302 (by kernel_rfl) rfl) (fun x _ W' hW'=>by
    obtain ⟨d0,d1,df⟩:=prow2 (keep_row HR1.out hW')
    unfold bigS
    go_enter Tryz.func302,Tryz.ntmps302
    go_wp2
    go_ret
    exact ⟨rfl,Below.refl _ _⟩)
  obtain ⟨q,c,rfl⟩:=hv.form
  obtain ⟨B,hB⟩:∃ B,vs.any (bigS s)=B:=⟨_,rfl⟩
  rw [hB] at HCF
  rw [hB]
  clear hv hB
  by_cases hk:k ≤ n
  · have hd:decide (k ≤ n)=true:=by simpa using hk
    go_enter Tryz.func237,Tryz.ntmps237
    go_wp2_with fail
    rw [← hW1]
    refine (show Calls _ _ _ _ _ from HCF.out).mono ?_
    rintro e w2 ⟨rfl,hb2⟩
    have HB2:Hid (Below w.heap.size w w2):=HB1.out.trans (hb2.mono HB1.out.size)
    clear hb2 hW1
    go_wp2
    go_ret
    refine ⟨?_,HB2.out⟩
    rw [hd]
    simp [go_sem]
  · have hd:decide (k ≤ n)=false:=by simpa using hk
    go_enter Tryz.func237,Tryz.ntmps237
    go_wp2
    go_ret
    rw [← hW1]
    exact ⟨rfl,HB1.out⟩
end Go.Proofs.YtiefeeoellagnaaGreatDoor.V
namespace Go.Proofs.YtiefeeoellagnaaGreatDoor.V
open Go.RowKit
open S6 (Laid Lay)
set_option linter.unusedVariables false
set_option linter.unusedSimpArgs false
def fC (a v:ByteArray):Obj:=.cells #[.string a,.string v] 83
theorem ofields {w:World} {base:Nat} {v:Value} {vs:List ByteArray} (h:w.ownsRow base 9 1 v vs.length (vs.map Value.string)):SRow w v vs:=by
  rcases h.2 with ⟨e,hn⟩ | ⟨g,cap,cur,hv,_,hg,hn,_,hs,ht⟩
  · exact Or.inl ⟨List.length_eq_zero_iff.1 hn,none,0,by rw [e]⟩
  · refine Or.inr ⟨g,0,cap,hv,fun j hj=>?_⟩
    rw [Nat.zero_add,cell_of_row _ _ _ _ _ _ hg]
    have h2:=congrArg (fun x=>x[j]?) ht
    simp only [Nat.mul_one] at h2
    rw [List.getElem?_take_of_lt hj,List.getElem?_map,List.getElem?_eq_getElem hj] at h2
    simpa using h2
set_option maxHeartbeats 1000000 in
set_option maxRecDepth 20000 in
theorem inTurns_one (X c:Nat) (a v:ByteArray) (w:World) (hX:w.heap[X]?=some (fC a v)):Calls Tryz.prog 72 #[.slice (some ⟨X,0,none⟩) 1 c] w fun e w'=>∃ v',e=.returned v'∧SRow w' v' [a,v]∧Below w.heap.size w w':=by
  obtain ⟨i0,hi,hz0,hz1,hz2⟩:=info_parts info9b
  have hmk:=fun W=>run_make_room (P:=Tryz.prog) 34 9 (.string ⟨#[]⟩) 16 Tryz.underlying34 info9b rfl .i64 .i64 2 (by omega) (by omega) W
  rw [show ((2:Nat):Int)=2 from rfl] at hmk
  have HI0:Hid (Tryz.prog.info? 9=some i0∧i0.zero=some (.string ⟨#[]⟩)∧i0.size=1∧i0.bytes=16):=⟨hi,hz0,hz1,hz2⟩
  obtain ⟨W1,hW1⟩:∃ W1,W1=w.alloc (.cells (madeCells #[.string ⟨#[]⟩] 2) 9):=⟨_,rfl⟩
  have HB1:Hid (Below w.heap.size w W1):=by show Below _ _ _; rw [hW1]; exact (Below.refl _ _).alloc (Nat.le_refl _) _
  have HO1:Hid (W1.ownsRow w.heap.size 9 1 (.slice (some ⟨w.heap.size,0,none⟩) 0 2) 0 []):=by
    show World.ownsRow _ _ _ _ _ _ _
    rw [hW1]
    exact World.ownsRow_made w _ 2 (Nat.le_refl _) (by unfold maxLen; omega) (by simp [size_madeCells])
  have HX:Hid (w.heap[X]?=some (fC a v)):=hX
  clear hi hz0 hz1 hz2 hX
  go_enter Tryz.func72,Tryz.ntmps72
  go_wp2
  rw [← hW1]
  clear hW1 hmk
  go_loopw [3,12] (fun cv cc wr=>(cc=.int .i64 0∧wr.ownsRow w.heap.size 9 1 cv 0 []∧Below w.heap.size w wr) ∨ (cc=.int .i64 1∧wr.ownsRow w.heap.size 9 1 cv 2 [.string a,.string v]∧Below w.heap.size w wr)) (fun _ cc _=>1 - (intOf cc).toNat)
  case atStart=>exact Or.inl ⟨rfl,HO1.out,HB1.out⟩
  case round =>
    rcases hrel with ⟨rfl,ho,hb⟩ | ⟨rfl,ho,hb⟩
    · have HO:Hid (wr.ownsRow w.heap.size 9 1 u3 0 []):=ho
      have HB:Hid (Below w.heap.size w wr):=hb
      have hx:=keep_row HX.out hb
      unfold fC at hx
      obtain ⟨x0,x1,xf⟩:=prow2 hx
      clear ho hb hx
      go_upto_region 5 with fail
      obtain ⟨W4,hW4⟩:∃ W4,W4=wr.alloc (.cells #[.string a,.string v] 83):=⟨_,rfl⟩
      have HX4:Hid (W4.heap[wr.heap.size]?=some (.cells #[.string a,.string v] 83)):=by show _=_; rw [hW4]; exact one_alloc _ _
      have hB4:Below wr.heap.size wr W4:=by rw [hW4]; exact (Below.refl _ _).alloc (Nat.le_refl _) _
      have HO4:Hid (W4.ownsRow w.heap.size 9 1 u3 0 []):=own_on HO.out hB4
      have HB4:Hid (Below w.heap.size w W4):=HB.out.trans (hB4.mono HB.out.size)
      have hz4:=HB4.out.size
      rw [← hW4]
      clear hW4 x0 x1 xf hB4
      obtain ⟨x0,x1,xf⟩:=prow2 HX4.out
      obtain ⟨hi,hz0,hz1,hz2⟩:=HI0.out
      go_wp2_with (at_builtin; go_must (refine wpList_append_own _ rfl _ _ 34 rfl w.heap.size 9 i0 (.string ⟨#[]⟩) 1 16 Tryz.underlying34 hi hz0 hz1 hz2 rfl (by decide) _ _ _ rfl (World.ownsRow.alloc HO4.out _) ⟨W4.heap.size,0,none⟩ 2 2 [.string a,.string v] rfl rfl ?bc1 ?bc2 ?bc3 ?bc4 ?bc5 ?_))
      case bc1 =>
        intro t u hj
        have hrow:=one_alloc W4 (.cells #[.string a,.string v] 9)
        match t,hj with
        | 0,hj=>simp at hj; subst hj; rw [Lib.add_plain,cell_of_row _ _ _ _ _ _ hrow]; rfl
        | 1,hj=>simp at hj; subst hj; rw [Lib.add_plain,cell_of_row _ _ _ _ _ _ hrow]; rfl
      case bc2=>intro u hu; simp at hu; rcases hu with rfl | rfl <;> rfl
      case bc3=>unfold maxLen; omega
      case bc4=>omega
      case bc5=>simp; omega
      intro v2 w5 hown2 hgrow2 _
      have HO5:Hid (w5.ownsRow w.heap.size 9 1 v2 2 [.string a,.string v]):=hown2
      have HB5:Hid (Below w.heap.size w w5):=(HB4.out.alloc hz4 _).grown hgrow2 (by simp; omega) (fun b hb=>(World.ownsRow.lt HO4.out b hb).1)
      clear hown2 hgrow2 hi hz0 hz1 hz2 x0 x1 xf
      go_wp2
      go_roundw
      case rel=>exact Or.inr ⟨rfl,HO5.out,HB5.out⟩
      case measure=>simp [intOf]
    · have HO:Hid (wr.ownsRow w.heap.size 9 1 u3 [a,v].length ([a,v].map Value.string)):=ho
      have HB:Hid (Below w.heap.size w wr):=hb
      clear ho hb
      go_wp2
      go_ret
      exact ⟨_,rfl,ofields HO.out,HB.out⟩
set_option maxHeartbeats 1000000 in
set_option maxRecDepth 20000 in
theorem namesIn_two (q:Value) (a v:ByteArray) (w:World) (hq:SRow w q [a,v]):Calls Tryz.prog 73 #[q,.int .i64 2] w fun e w'=>∃ v',e=.returned v'∧SRow w' v' [a]∧Below w.heap.size w w':=by
  obtain ⟨P,c,rfl⟩:=hq.form
  have HQ:Hid (SRow w (.slice P [a,v].length c) [a,v]):=hq
  obtain ⟨g,o,hP,ha⟩:=hq.cell 0 (by simp)
  subst hP
  rw [show [a,v].length=2 from rfl] at *
  obtain ⟨i0,hi,hz0,hz1,hz2⟩:=info_parts info9b
  have hmk:=fun W=>run_make_room (P:=Tryz.prog) 34 9 (.string ⟨#[]⟩) 16 Tryz.underlying34 info9b rfl .i64 .i64 1 (by omega) (by omega) W
  rw [show ((1:Nat):Int)=1 from rfl] at hmk
  have HI0:Hid (Tryz.prog.info? 9=some i0∧i0.zero=some (.string ⟨#[]⟩)∧i0.size=1∧i0.bytes=16):=⟨hi,hz0,hz1,hz2⟩
  have HA:Hid (w.cell? ⟨g,o,none⟩=some (.string a)):=ha
  obtain ⟨W1,hW1⟩:∃ W1,W1=w.alloc (.cells (madeCells #[.string ⟨#[]⟩] 1) 9):=⟨_,rfl⟩
  have HB1:Hid (Below w.heap.size w W1):=by show Below _ _ _; rw [hW1]; exact (Below.refl _ _).alloc (Nat.le_refl _) _
  have HO1:Hid (W1.ownsRow w.heap.size 9 1 (.slice (some ⟨w.heap.size,0,none⟩) 0 1) 0 []):=by
    show World.ownsRow _ _ _ _ _ _ _
    rw [hW1]
    exact World.ownsRow_made w _ 1 (Nat.le_refl _) (by unfold maxLen; omega) (by simp [size_madeCells])
  clear hi hz0 hz1 hz2 hq ha
  go_enter Tryz.func73,Tryz.ntmps73
  go_wp2
  rw [← hW1]
  clear hW1 hmk
  go_loopw [5,6] (fun cv cc wr=>(cc=.int .i64 0∧wr.ownsRow w.heap.size 9 1 cv 0 []∧Below w.heap.size w wr) ∨ (cc=.int .i64 2∧wr.ownsRow w.heap.size 9 1 cv 1 [.string a]∧Below w.heap.size w wr)) (fun _ cc _=>2 - (intOf cc).toNat)
  case atStart=>exact Or.inl ⟨rfl,HO1.out,HB1.out⟩
  case round =>
    rcases hrel with ⟨rfl,ho,hb⟩ | ⟨rfl,ho,hb⟩
    · have HO:Hid (wr.ownsRow w.heap.size 9 1 u5 0 []):=ho
      have HB:Hid (Below w.heap.size w wr):=hb
      have hz4:=hb.size
      have hx:=cell_on HA.out hb
      clear ho hb
      go_upto_region 5 with fail
      obtain ⟨hi,hz0,hz1,hz2⟩:=HI0.out
      go_wp2_with (at_builtin; go_must (refine wpList_append_own _ rfl _ _ 34 rfl w.heap.size 9 i0 (.string ⟨#[]⟩) 1 16 Tryz.underlying34 hi hz0 hz1 hz2 rfl (by decide) _ _ _ rfl (World.ownsRow.alloc HO.out _) ⟨wr.heap.size,0,none⟩ 1 1 [.string a] rfl rfl ?bc1 ?bc2 ?bc3 ?bc4 ?bc5 ?_))
      case bc1 =>
        intro t u hj
        match t,hj with
        | 0,hj=>simp at hj; subst hj; exact S5.cell_newN _ 0 _ _
      case bc2=>intro u hu; simp at hu; subst hu; rfl
      case bc3=>unfold maxLen; omega
      case bc4=>omega
      case bc5=>simp; omega
      intro v2 w5 hown2 hgrow2 _
      have HO5:Hid (w5.ownsRow w.heap.size 9 1 v2 1 [.string a]):=hown2
      have HB5:Hid (Below w.heap.size w w5):=(HB.out.alloc hz4 _).grown hgrow2 (by simp; omega) (fun b hb=>(World.ownsRow.lt HO.out b hb).1)
      clear hown2 hgrow2 hi hz0 hz1 hz2 hx
      go_wp2
      go_roundw
      case rel=>exact Or.inr ⟨rfl,HO5.out,HB5.out⟩
      case measure=>simp [intOf]
    · have HO:Hid (wr.ownsRow w.heap.size 9 1 u5 [a].length ([a].map Value.string)):=ho
      have HB:Hid (Below w.heap.size w wr):=hb
      clear ho hb
      go_wp2
      go_ret
      exact ⟨_,rfl,ofields HO.out,HB.out⟩
end Go.Proofs.YtiefeeoellagnaaGreatDoor.V
