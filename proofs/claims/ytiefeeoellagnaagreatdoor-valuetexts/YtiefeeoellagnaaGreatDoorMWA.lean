import Derived.Test.YtiefeeoellagnaaGreatDoorHA
import Derived.Test.YtiefeeoellagnaaGreatDoorFG
import Derived.Laws.EntriesVeiled
namespace Go.Proofs.YtiefeeoellagnaaGreatDoor.V
open Go.RowKit
open S6 (Laid Lay)
set_option linter.unusedVariables false
set_option linter.unusedSimpArgs false
set_option maxHeartbeats 1000000 in
set_option maxRecDepth 20000 in
theorem tooMany_pk (b:Nat) (n s wd we z x:Int) (p:ByteArray) (v:Value) (vs:List ByteArray) (w:World) (hv:SRow w v vs) (hz:0 ≤ z) (hl:z + (vs.length:Int) ≤ 1048576) (hb:w.heap[b]?=some (pkC 142 n s wd we p z x)):Calls Tryz.prog 69 #[phB b,v] w fun e w'=>e=.returned (.bool false)∧w'=w:=by
  obtain ⟨q,c,rfl⟩:=hv.form
  unfold pkC at hb
  obtain ⟨c0,c1,c2,c3,c4,c5,c6,cf⟩:=row7 hb
  clear hv hb
  unfold phB
  go_enter Tryz.func69,Tryz.ntmps69
  go_wp2
  go_returns
  exact ⟨rfl,rfl⟩
set_option maxHeartbeats 1000000 in
set_option maxRecDepth 20000 in
theorem IndexField_nil (q:Option Addr) (c:Nat) (f:Value) (w:World):Calls Tryz.prog 581 #[.slice q 0 c,f] w fun e w'=>e=.returned (.int .i64 (-1))∧w'=w:=by
  go_enter Tryz.func581,Tryz.ntmps581
  go_wp2
  go_rounds 1
  go_wp2
  go_returns
  exact ⟨rfl,rfl⟩
theorem srow_two (W:World) (a v:ByteArray):SRow (W.alloc (.cells #[.string a,.string v] 9)) (.slice (some ⟨W.heap.size,0,none⟩) 2 2) [a,v]:=by
  have h:=one_alloc W (.cells #[.string a,.string v] 9)
  refine Or.inr ⟨W.heap.size,0,2,rfl,fun j hj=>?_⟩
  rw [cell_of_row _ _ _ _ _ _ h]
  match j,hj with
  | 0,_=>rfl
  | 1,_=>rfl
set_option maxHeartbeats 4000000 in
set_option maxRecDepth 100000 in
theorem put_refused (b X cx:Nat) (n s:Int) (a v:ByteArray) (hbig:s < (v.size:Int)) (w:World) (hw:Lay w) (hb:w.heap[b]?=some (pkC 142 n s 2 2 EP 0 0)) (hX:w.heap[X]?=some (fC a v)) :
    Calls Tryz.prog 580 #[.pointer (some ⟨b,0,none⟩),.slice (some ⟨X,0,none⟩) 1 cx] w fun e w'=>e=.returned (.tuple #[.int .i64 0,.int .i64 0])∧w'.heap[b]?=some (pkC 142 n s 2 2 EP 0 0)∧Mod b w w':=by
  have HFN:Hid _:=fields_nil b n s 2 2 0 0 w hw hb
  have HB:Hid _:=hb
  have HX:Hid _:=hX
  have HW:Hid (Lay w):=hw
  have HHO:Hid (∀ k v' W,SRow W v' [a,v] → Calls Tryz.prog 237 #[.agg #[.int .i64 n,.int .i64 s],.int .i64 k,v'] W fun e w'=>e=.returned (.bool false)∧Below W.heap.size W w'):=fun k v' W h=>by
    have:=holds_any n s k v' [a,v] (by simp) W h
    have he:(decide (k ≤ n) && !([a,v].any (bigS s)))=false:=by
      have:bigS s v=true:=by unfold bigS; simpa using hbig
      simp [this]
    rw [he] at this
    exact this
  obtain ⟨E,hE⟩:∃ E,E=EP:=⟨_,rfl⟩
  clear hb hX hw
  go_enter Tryz.func580,Tryz.ntmps580
  go_wp2_with fail
  refine (show Calls _ _ _ _ _ from HFN.out).mono ?_
  rintro e w1 ⟨g,rfl,hb1⟩
  have HB1:Hid (Below w.heap.size w w1):=hb1
  have hx1:=keep_row HX.out hb1
  unfold fC at hx1
  obtain ⟨x0,x1,xf⟩:=prow2 hx1
  clear hb1 hx1
  go_wp2
  go_loopw [6,7,16] (fun ca cd cc wr=>ca=.slice (some ⟨g,0,none⟩) 0 0∧cd=.int .i64 0∧cc=.int .i64 0∧wr=w1) (fun _ _ _ _=>0)
  case atStart=>exact ⟨rfl,rfl,rfl,rfl⟩
  case round =>
    obtain ⟨rfl,rfl,rfl,rfl⟩:=hrel
    obtain ⟨W2,hW2⟩:∃ W2,W2=wr.alloc (.cells #[.string a,.string v] 83):=⟨_,rfl⟩
    obtain ⟨F,hF⟩:∃ F,wr.heap.size=F:=⟨_,rfl⟩
    have HF2:Hid (W2.heap[F]?=some (.cells #[.string a,.string v] 83)):=by show _=_; rw [hW2,← hF]; exact one_alloc _ _
    have HB2:Hid (Below w.heap.size w W2):=by show Below _ _ _; rw [hW2]; exact HB1.out.alloc HB1.out.size _
    have HIX:Hid (∀ f,Calls Tryz.prog 581 #[.slice (some ⟨g,0,none⟩) 0 0,f] W2 fun e w'=>e=.returned (.int .i64 (-1))∧w'=W2):=fun f=>IndexField_nil _ _ f W2
    have HFF:Hid (wr.heap.size=F):=hF
    clear hF
    go_wp2_with fail
    rw [← hW2,HFF.out]
    refine (show Calls _ _ _ _ _ from HIX.out _).mono ?_
    rintro e w3 ⟨rfl,rfl⟩
    clear x0 x1 xf hW2
    have HKS:Hid (∀ W,Below w3.heap.size w3 W → W.cell? ⟨b,0,none⟩=some (.int .i64 n)∧W.cell? ⟨b,1,none⟩=some (.int .i64 s)∧W.cell? ⟨F,0,none⟩=some (.string a)∧W.cell? ⟨F,1,none⟩=some (.string v)):=fun W hW=>by
      have h1:=keep_row (keep_row HB.out HB2.out) hW
      unfold pkC at h1
      have h2:=keep_row HF2.out hW
      exact ⟨(row7 h1).1,(row7 h1).2.1,(prow2 h2).1,(prow2 h2).2.1⟩
    have hS0:=HKS.out w3 (Below.refl _ _)
    have hSd:=HKS.out w3.drew (Below.refl _ _).drew
    go_upto_region 8 with fail
    go_region_held3 (fun W:World=>W.cell? ⟨b,0,none⟩=some (.int .i64 n)∧W.cell? ⟨b,1,none⟩=some (.int .i64 s)∧W.cell? ⟨F,0,none⟩=some (.string a)∧W.cell? ⟨F,1,none⟩=some (.string v))
      (first | with_reducible exact hS0 | with_reducible exact hSd | with_reducible exact hS4 | exact ⟨cell_a1 hSd.1 _,cell_a1 hSd.2.1 _,cell_a1 hSd.2.2.1 _,cell_a1 hSd.2.2.2 _⟩ | exact ⟨cell_a1 hS0.1 _,cell_a1 hS0.2.1 _,cell_a1 hS0.2.2.1 _,cell_a1 hS0.2.2.2 _⟩)
      (first | (go_at_call 237; refine (show Calls _ _ _ _ _ from HHO.out _ _ _ ((srow_two w3 a v).on (Below.refl _ _).drew)).mono ?_; rintro e w5 ⟨rfl,hb5⟩; have hx5:Below w3.heap.size w3 w5:=(((Below.refl _ w3).alloc (Nat.le_refl _) _).drew.trans (hb5.mono (by simp))); have hS4:=HKS.out _ hx5))
    all_goals (
      have HB5:Hid (Below w.heap.size w w5):=HB2.out.trans (hx5.mono HB2.out.size)
      have h5:=keep_row HB.out HB5.out
      have HR5:Hid (w5.heap[b]?=some (pkC 142 n s 2 2 EP 0 0)):=h5
      clear hS0 hSd hS4 hx5 hb5
      unfold pkC at h5
      obtain ⟨c0,c1,c2,c3,c4,c5,c6,cf⟩:=row7 h5
      clear h5
      have HHN:Hid (∀ q c W,Below w5.heap.size w5 W → Calls Tryz.prog 136 #[.pointer (some ⟨b,0,none⟩),.slice q 0 c] W fun e w'=>e=.returned (.tuple #[])∧w'.heap[b]?=some (pkC 142 n s 2 2 EP 0 0)∧Mod b W w'):=fun q c W hW=>hold_nil 142 b n s 2 2 0 0 (Or.inr rfl) EP q c W (HW.out.on (HB5.out.trans (hW.mono HB5.out.size))) (keep_row HR5.out hW)
      go_upto_region 15 with fail
      clear c0 c1 c2 c3 c4 c5 c6 cf
      go_region_with (first | (go_at_call 72; refine (show Calls _ _ _ _ _ from inTurns_nil _ _ _).mono ?_; rintro e w6 ⟨g6,rfl,hb6⟩; have HX6:Hid (Below w5.heap.size w5 w6):=((Below.refl _ _).drew.trans hb6); clear hb6) | (go_at_call 136; refine (show Calls _ _ _ _ _ from HHN.out _ _ _ HX6.out).mono ?_; rintro e w7 ⟨rfl,hb7,hm7⟩)))
    all_goals (
      have H7:Hid (w7.heap[b]?=some (pkC 142 n s 2 2 EP 0 0)∧Mod b w w7):=⟨hb7,(Mod.of HB5.out).trans ((Mod.of HX6.out).trans hm7)⟩
      clear hb7 hm7
      go_wp2
      go_ret2
      exact ⟨rfl,H7.out⟩)
end Go.Proofs.YtiefeeoellagnaaGreatDoor.V
namespace Go.Proofs.YtiefeeoellagnaaGreatDoor.V
open Go.RowKit
open S6 (Laid Lay)
set_option linter.unusedVariables false
set_option linter.unusedSimpArgs false
def wgF:Value:=.func (.func 244) #[] #[]
def thC (g:Nat) (x:Int):Obj:=.cells #[.pointer (some ⟨g,0,none⟩),wgF,.int .i64 x] 365
def thB (b:Nat):Value:=.iface 318 (.pointer (some ⟨b,0,none⟩))
theorem ta_thash (v:Value) (xT:TypeId) (w:World):(Instr.typeAssert (.iface 318 v) xT 153 true).run Tryz.prog w=.ok (.tuple #[.iface 318 v,.bool true]) w:=run_typeAssert_hasB Tryz.underlying153 (by kernel_rfl) v xT w
set_option maxRecDepth 20000 in
theorem asHash_th (bv bs:Nat) (w:World) (h:w.heap[bv]?=some (vC 5 (thB bs))):Calls Tryz.prog 71 #[.pointer (some ⟨bv,0,none⟩)] w fun e w'=>e=.returned (.tuple #[thB bs,.int .i64 0])∧w'=w:=by
  unfold vC thB at *
  obtain ⟨c0,c1,cf⟩:=prow2 h
  clear h
  have hta:=fun W=>ta_thash (.pointer (some ⟨bs,0,none⟩)) 61 W
  go_enter Tryz.func71,Tryz.ntmps71
  go_wp2
  go_returns
  exact ⟨rfl,rfl⟩
set_option maxRecDepth 20000 in
theorem dNew (w:World):Calls Tryz.prog 306 #[.int .i64 0] w fun e w'=>e=.returned (.pointer (some ⟨w.heap.size,0,none⟩))∧w'.heap[w.heap.size]?=some (.cells (S8.dcells none 0 0 0) 487)∧Below w.heap.size w w':=by
  go_enter Tryz.func306,Tryz.ntmps306
  go_wp2
  go_returns
  exact ⟨rfl,one_alloc _ _,(Below.refl _ _).alloc (Nat.le_refl _) _⟩
set_option maxHeartbeats 1000000 in
set_option maxRecDepth 20000 in
theorem tNew (w:World):Calls Tryz.prog 243 #[wgF] w fun e w'=>∃ g,e=.returned (.agg #[.pointer (some ⟨g,0,none⟩),wgF,.int .i64 0])∧w.heap.size ≤ g∧w'.heap[g]?=some (.cells (S8.dcells none 0 0 0) 487)∧Below w.heap.size w w':=by
  obtain ⟨W1,hW1⟩:∃ W1,W1=w.alloc (.cells #[.pointer none,.nilFunc,.int .i64 0] 362):=⟨_,rfl⟩
  obtain ⟨r,hr⟩:∃ r,w.heap.size=r:=⟨_,rfl⟩
  have HR1:Hid (W1.heap[r]?=some (.cells #[.pointer none,.nilFunc,.int .i64 0] 362)):=by show _=_; rw [hW1,← hr]; exact one_alloc _ _
  have HB1:Hid (Below w.heap.size w W1):=by show Below _ _ _; rw [hW1]; exact (Below.refl _ _).alloc (Nat.le_refl _) _
  have HDN:Hid _:=dNew W1
  have HRW:Hid (w.heap.size=r):=hr
  unfold wgF
  clear hr
  go_enter Tryz.func243,Tryz.ntmps243
  go_wp2_with fail
  rw [← hW1]
  refine (show Calls _ _ _ _ _ from HDN.out).mono ?_
  rintro e w2 ⟨rfl,hg,hb2⟩
  have HG:Hid (w2.heap[W1.heap.size]?=some (.cells (S8.dcells none 0 0 0) 487)):=hg
  have HX:Hid (w2.heap[r]?=some (.cells #[.pointer none,.nilFunc,.int .i64 0] 362)):=keep_row HR1.out hb2
  have HB2:Hid (Below w.heap.size w w2):=HB1.out.trans (hb2.mono HB1.out.size)
  have HS:Hid (W1.heap.size=r + 1):=by show _=_; rw [hW1]; simp [HRW.out]
  rw [HRW.out]
  clear hW1 hg hb2
  obtain ⟨d0,d1,d2,df⟩:=row3 HX.out
  go_wp2
  obtain ⟨h3,ho⟩:=heap_set3 w2 r _ _ _ _ (.pointer (some ⟨W1.heap.size,0,none⟩)) (.func (.func 244) #[] #[]) (.int .i64 0) HX.out
  clear d0 d1 d2 df
  revert h3 ho
  generalize ((w2.setCell ⟨r,0,none⟩ (.pointer (some ⟨W1.heap.size,0,none⟩))).setCell ⟨r,1,none⟩ (.func (.func 244) #[] #[])).setCell ⟨r,2,none⟩ (.int .i64 0)=W3
  intro h3 ho
  obtain ⟨c0,c1,c2,cf⟩:=row3 h3
  refine bodyPost_ret (v:=.agg #[.pointer (some ⟨W1.heap.size,0,none⟩),.func (.func 244) #[] #[],.int .i64 0]) (by simp [results,Tryz.results243,go_sem,c0,c1,c2]) rfl ⟨_,rfl,by rw [HS.out,HRW.out]; omega,?_,?_⟩
  · rw [ho.other _ (by rw [HS.out]; omega)]; exact HG.out
  · exact HB2.out.trans (ho.below (by rw [HRW.out]; exact Nat.le_refl _))
set_option maxHeartbeats 1000000 in
set_option maxRecDepth 20000 in
theorem tput_nil (bt:Nat) (q:Option Addr) (c:Nat) (w:World):Calls Tryz.prog 245 #[.pointer (some ⟨bt,0,none⟩),.slice q 0 c] w fun e w'=>e=.returned (.tuple #[.int .i64 0,.int .i64 0])∧w'=w:=by
  go_enter Tryz.func245,Tryz.ntmps245
  go_wp2
  go_rounds 1
  go_wp2
  go_returns
  exact ⟨rfl,rfl⟩
set_option maxHeartbeats 1000000 in
set_option maxRecDepth 20000 in
theorem thNew (q:Option Addr) (c:Nat) (w:World):Calls Tryz.prog 203 #[.slice q 0 c] w fun e w'=>∃ bt g,e=.returned (.pointer (some ⟨bt,0,none⟩))∧w.heap.size ≤ g∧g < bt∧w'.heap[g]?=some (.cells (S8.dcells none 0 0 0) 487)∧w'.heap[bt]?=some (thC g 0)∧Below w.heap.size w w':=by
  have HTN:Hid _:=tNew w
  have HTP:Hid (∀ b W,Calls Tryz.prog 245 #[.pointer (some ⟨b,0,none⟩),.slice q 0 c] W fun e w'=>e=.returned (.tuple #[.int .i64 0,.int .i64 0])∧w'=W):=fun b W=>tput_nil b q c W
  unfold wgF at HTN
  go_enter Tryz.func203,Tryz.ntmps203
  go_wp2_with fail
  refine (show Calls _ _ _ _ _ from HTN.out).mono ?_
  rintro e w1 ⟨g,rfl,hg,hr,hb⟩
  have HR:Hid (w1.heap[g]?=some (.cells (S8.dcells none 0 0 0) 487)):=hr
  have HG:Hid (w.heap.size ≤ g):=hg
  have HB:Hid (Below w.heap.size w w1):=hb
  have HLT:Hid (g < w1.heap.size):=row_lt hr
  clear hr hg hb
  go_wp2_with fail
  refine (show Calls _ _ _ _ _ from HTP.out _ _).mono ?_
  rintro e w2 ⟨rfl,rfl⟩
  go_wp2
  go_ret
  exact ⟨_,g,rfl,HG.out,HLT.out,keep_row HR.out ((Below.refl _ _).alloc (Nat.le_refl _) _),one_alloc _ _,HB.out.alloc HB.out.size _⟩
set_option maxHeartbeats 1000000 in
set_option maxRecDepth 20000 in
theorem Get_none (g:Nat) (w:World) (hg:w.heap[g]?=some (.cells (S8.dcells none 0 0 0) 487)):Calls Tryz.prog 352 #[.pointer (some ⟨g,0,none⟩),.string ⟨#[97]⟩] w fun e w'=>e=.returned (.tuple #[.string ⟨#[]⟩,.bool false])∧Below w.heap.size w w':=by
  obtain ⟨H,hh,hHC⟩:=S8.hash_call w
  have HHC:Hid _:=hHC
  unfold S8.dcells at hg
  obtain ⟨c0,c1,c2,c3,c4,c5,cf⟩:=row6 hg
  have HFN:Hid _:=S8.find_nil g none none 0 0 H ⟨#[97]⟩ w c1 c3
  clear hg hHC
  go_enter Tryz.func352,Tryz.ntmps352
  go_wp2_with fail
  refine (show Calls _ _ _ _ _ from HHC.out _).mono ?_
  rintro e w1 ⟨rfl,rfl⟩
  go_wp2_with fail
  refine (show Calls _ _ _ _ _ from HFN.out).mono ?_
  rintro e w1 ⟨rfl,rfl⟩
  go_wp2
  go_returns
  exact ⟨rfl,Below.refl _ _⟩
set_option maxRecDepth 20000 in
theorem wg_any (s:ByteArray) (w:World):Calls Tryz.prog 244 #[.string s] w fun e w'=>e=.returned (.int .i64 (s.size:Int))∧w'=w:=by
  go_enter Tryz.func244,Tryz.ntmps244
  go_wp2
  go_ret
  exact ⟨rfl,rfl⟩
set_option maxHeartbeats 4000000 in
set_option maxRecDepth 100000 in
theorem give_new (bt g:Nat) (hgb:g < bt) (v:ByteArray) (hv:v.size ≤ 524288) (w:World) (hg:w.heap[g]?=some (.cells (S8.dcells none 0 0 0) 487)) (hb:w.heap[bt]?=some (thC g 0)) :
    Calls Tryz.prog 307 #[.pointer (some ⟨bt,0,none⟩),.string ⟨#[97]⟩,.string v] w fun e w'=>e=.returned (.bool true)∧∃ B E c,S8.DW w' g B E c v∧w'.heap[bt]?=some (thC g (1 + v.size))∧S8.Md g bt w w':=by
  have HGN:Hid _:=Get_none g w hg
  have HB:Hid _:=hb
  have HG:Hid _:=hg
  have hcf:∀ args W,(callFunc 244 args).run Tryz.prog W=.ok (.enter 244 args) W:=enters_my Tryz.func244 (by kernel_rfl) rfl
  have hb1:=hb
  unfold thC wgF at hb1
  obtain ⟨c0,c1,c2,cf⟩:=row3 hb1
  clear hb hg hb1
  go_enter Tryz.func307,Tryz.ntmps307
  go_wp2_with fail
  refine (show Calls _ _ _ _ _ from HGN.out).mono ?_
  rintro e w1 ⟨rfl,hb1⟩
  have HB1:Hid (w1.heap[bt]?=some (thC g 0)):=keep_row HB.out hb1
  have HG1:Hid _:=keep_row HG.out hb1
  have HL1:Hid _:=hb1
  clear c0 c1 c2 cf hb1
  have h1:=HB1.out
  unfold thC wgF at h1
  obtain ⟨c0,c1,c2,cf⟩:=row3 h1
  clear h1
  go_upto_region 5 with fail
  obtain ⟨W2,hW2⟩:∃ W2,W2=w1.setCell ⟨bt,2,none⟩ (.int .i64 1):=⟨_,rfl⟩
  have HB2:Hid (W2.heap[bt]?=some (thC g 1)):=by show _=_; rw [hW2,heap_setCell_same _ _ _ _ _ _ HB1.out]; rfl
  have HM2:Hid (Mod bt w W2):=(Mod.of HL1.out).trans (Mod.only (by rw [hW2]; exact (Only.refl _ _).set _ _))
  have HG2:Hid (W2.heap[g]?=some (.cells (S8.dcells none 0 0 0) 487)):=by show _=_; rw [hW2,heap_setCell_other _ _ _ _ (show g ≠ bt by omega)]; exact HG1.out
  rw [← hW2]
  clear hW2 c0 c1 c2 cf
  have h2:=HB2.out
  unfold thC wgF at h2
  obtain ⟨c0,c1,c2,cf⟩:=row3 h2
  clear h2
  have hn0:(0:Int) ≤ (v.size:Int):=by omega
  have hn1:(v.size:Int) ≤ 524288:=by omega
  go_region_with (go_at_call 244; refine (show Calls _ _ _ _ _ from wg_any v _).mono ?_; rintro e w3 ⟨rfl,rfl⟩)
  all_goals (
    obtain ⟨W3,hW3⟩:∃ W3,W3=(W2.setCell ⟨bt,2,none⟩ (.int .i64 (1 + (v.size:Int)))).drew:=⟨_,rfl⟩
    rw [show IntKind.i64.wrap (1 + (v.size:Int))=1 + (v.size:Int) by rw [IntKind.wrap_i64]; omega,← hW3]
    have HB3:Hid (W3.heap[bt]?=some (thC g (1 + v.size))):=by
      show _=_
      rw [hW3]
      show (W2.setCell ⟨bt,2,none⟩ (.int .i64 (1 + (v.size:Int)))).heap[bt]?=_
      rw [heap_setCell_same _ _ _ _ _ _ HB2.out]; rfl
    have HM3:Hid (Mod bt w W3):=HM2.out.trans ((Mod.only ((Only.refl _ _).set _ _)).trans (by rw [hW3]; exact Mod.of (Below.refl _ _).drew))
    have HG3:Hid (W3.heap[g]?=some (.cells (S8.dcells none 0 0 0) 487)):=by
      show _=_
      rw [hW3]
      show (W2.setCell ⟨bt,2,none⟩ (.int .i64 (1 + (v.size:Int)))).heap[g]?=_
      rw [heap_setCell_other _ _ _ _ (show g ≠ bt by omega)]; exact HG2.out
    have HST:Hid _:=S8.Set_new g v W3 HG3.out
    clear hW3 c0 c1 c2 cf
    have h3:=HB3.out
    unfold thC wgF at h3
    obtain ⟨c0,c1,c2,cf⟩:=row3 h3
    clear h3
    go_wp2_with fail
    refine (show Calls _ _ _ _ _ from HST.out).mono ?_
    rintro e w4 ⟨rfl,B,E,c,_,_,hD,hm⟩
    have H4:Hid (S8.DW w4 g B E c v∧w4.heap[bt]?=some (thC g (1 + v.size))∧S8.Md g bt w w4):=
      ⟨hD,(hm.oth bt (row_lt HB3.out) (by omega) (by omega)).trans HB3.out,⟨hm.os.trans HM3.out.os,hm.tape.trans HM3.out.tape,hm.output.trans HM3.out.output,Nat.le_trans HM3.out.size hm.size,fun k hk h1 h2=>(hm.oth k (Nat.lt_of_lt_of_le hk HM3.out.size) h1 h1).trans (HM3.out.oth k hk h2)⟩⟩
    clear hD hm
    go_wp2
    go_ret
    exact ⟨rfl,B,E,c,H4.out⟩)
end Go.Proofs.YtiefeeoellagnaaGreatDoor.V
