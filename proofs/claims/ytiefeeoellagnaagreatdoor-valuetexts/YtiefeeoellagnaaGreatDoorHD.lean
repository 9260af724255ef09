import Derived.Test.YtiefeeoellagnaaGreatDoorMWA
namespace Go.Proofs.YtiefeeoellagnaaGreatDoor.V
open Go.RowKit
open S6 (Laid Lay)
set_option linter.unusedVariables false
set_option linter.unusedSimpArgs false
def aT:ByteArray:=⟨#[97]⟩
set_option maxHeartbeats 4000000 in
set_option maxRecDepth 100000 in
theorem tput_one (bt g X cx:Nat) (hgb:g < bt) (v:ByteArray) (hv:v.size ≤ 524288) (w:World) (hg:w.heap[g]?=some (.cells (S8.dcells none 0 0 0) 487)) (hb:w.heap[bt]?=some (thC g 0)) (hX:w.heap[X]?=some (fC ⟨#[97]⟩ v)) :
    Calls Tryz.prog 245 #[.pointer (some ⟨bt,0,none⟩),.slice (some ⟨X,0,none⟩) 1 cx] w fun e w'=>e=.returned (.tuple #[.int .i64 1,.int .i64 1])∧∃ B E c,S8.DW w' g B E c v∧w'.heap[bt]?=some (thC g (1 + v.size))∧S8.Md g bt w w':=by
  have HG:Hid _:=hg
  have HB:Hid _:=hb
  have HX:Hid _:=hX
  unfold fC at hX
  obtain ⟨x0,x1,xf⟩:=prow2 hX
  have HCL:Hid (∀ W,Calls Tryz.prog 77 #[.string v] W fun e w'=>e=.returned (.string v)∧Below W.heap.size W w'):=fun W=>S8.clone_any v (by omega) W
  have HGV:Hid (∀ W,W.heap[g]?=some (.cells (S8.dcells none 0 0 0) 487) → W.heap[bt]?=some (thC g 0) → Calls Tryz.prog 307 #[.pointer (some ⟨bt,0,none⟩),.string ⟨#[97]⟩,.string v] W fun e w'=>e=.returned (.bool true)∧∃ B E c,S8.DW w' g B E c v∧w'.heap[bt]?=some (thC g (1 + v.size))∧S8.Md g bt W w'):=fun W h1 h2=>give_new bt g hgb v hv W h1 h2
  clear hg hb hX
  go_enter Tryz.func245,Tryz.ntmps245
  go_wp2
  go_loopw [6,11] (fun cf ci wr=>(cf=.int .i64 0∧ci=.int .i64 0∧wr=w) ∨ (cf=.int .i64 1∧ci=.int .i64 1∧∃ B E c,S8.DW wr g B E c v∧wr.heap[bt]?=some (thC g (1 + v.size))∧S8.Md g bt w wr)) (fun _ ci _=>1 - (intOf ci).toNat)
  case atStart=>exact Or.inl ⟨rfl,rfl,rfl⟩
  case round =>
    rcases hrel with ⟨rfl,rfl,rfl⟩ | ⟨rfl,rfl,B,E,c,hD,h1,h2⟩
    · obtain ⟨W2,hW2⟩:∃ W2,W2=wr.alloc (.cells #[.string ⟨#[97]⟩,.string v] 83):=⟨_,rfl⟩
      have HB2:Hid (Below wr.heap.size wr W2):=by show Below _ _ _; rw [hW2]; exact (Below.refl _ _).alloc (Nat.le_refl _) _
      have HF2:Hid (W2.heap[wr.heap.size]?=some (.cells #[.string ⟨#[97]⟩,.string v] 83)):=by show _=_; rw [hW2]; exact one_alloc _ _
      go_upto_region 5 with fail
      rw [← hW2]
      clear hW2 x0 x1 xf
      obtain ⟨x0,x1,xf⟩:=prow2 HF2.out
      have HKS:Hid (∀ W,Below W2.heap.size W2 W → W.cell? ⟨wr.heap.size,0,none⟩=some (.string ⟨#[97]⟩)∧W.cell? ⟨wr.heap.size,1,none⟩=some (.string v)):=fun W hW=>⟨(prow2 (keep_row HF2.out hW)).1,(prow2 (keep_row HF2.out hW)).2.1⟩
      go_region_with (first | (go_at_call 77; refine (show Calls _ _ _ _ _ from HCL.out _).mono ?_; rintro e w3 ⟨rfl,hb3⟩; have HX3:Hid (Below W2.heap.size W2 w3):=((Below.refl _ _).drew.trans hb3); have HXY:Hid (Below wr.heap.size wr w3):=HB2.out.trans (HX3.out.mono HB2.out.size); obtain ⟨y0,y1⟩:=HKS.out w3 HX3.out; clear hb3) | (go_at_call 307; refine (show Calls _ _ _ _ _ from HGV.out _ (keep_row HG.out HXY.out) (keep_row HB.out HXY.out)).mono ?_; rintro e w4 ⟨rfl,B,E,c,hD,hb4,ho4⟩))
      all_goals (
        have H4:Hid (∃ B E c,S8.DW w4 g B E c v∧w4.heap[bt]?=some (thC g (1 + v.size))∧S8.Md g bt wr w4):=⟨B,E,c,hD,hb4,(S8.Md.of HXY.out).trans ho4⟩
        clear hD hb4 ho4 x0 x1 xf y0 y1
        go_wp2
        go_roundw
        case rel=>exact Or.inr ⟨rfl,rfl,H4.out⟩
        case measure=>simp [intOf])
    · have H4:Hid (∃ B E c,S8.DW wr g B E c v∧wr.heap[bt]?=some (thC g (1 + v.size))∧S8.Md g bt w wr):=⟨B,E,c,hD,h1,h2⟩
      clear hD h1 h2 x0 x1 xf
      go_wp2
      go_ret2
      exact ⟨rfl,H4.out⟩
theorem ta_is (v:Value) (xT:TypeId) (w:World):(Instr.typeAssert (.iface 69 v) xT 65 true).run Tryz.prog w=.ok (.tuple #[.pointer none,.bool false]) w:=by kernel_rfl
theorem ta_ps (v:Value) (xT:TypeId) (w:World):(Instr.typeAssert (.iface 69 v) xT 314 true).run Tryz.prog w=.ok (.tuple #[.pointer none,.bool false]) w:=by kernel_rfl
theorem ta_ph (v:Value) (xT:TypeId) (w:World):(Instr.typeAssert (.iface 69 v) xT 69 true).run Tryz.prog w=.ok (.tuple #[v,.bool true]) w:=by kernel_rfl
set_option maxHeartbeats 4000000 in
set_option maxRecDepth 100000 in
theorem grow_hash (bv bs:Nat) (n s wd we z x:Int) (w:World) (hw:Lay w) (hv:w.heap[bv]?=some (vC 5 (phB bs))) (hb:w.heap[bs]?=some (pkC 142 n s wd we EP z x)) :
    Calls Tryz.prog 142 #[.pointer (some ⟨bv,0,none⟩)] w fun e w'=>e=.returned (.tuple #[])∧∃ bt g,w.heap.size ≤ g∧g < bt∧w'.heap[bv]?=some (vC 5 (thB bt))∧w'.heap[g]?=some (.cells (S8.dcells none 0 0 0) 487)∧w'.heap[bt]?=some (thC g 0)∧Mod bv w w':=by
  have HFN:Hid _:=fields_nil bs n s wd we z x w hw hb
  have HV:Hid _:=hv
  have h1:=hv
  unfold vC phB at h1
  obtain ⟨c0,c1,cf⟩:=prow2 h1
  have ht1:=ta_is (.pointer (some ⟨bs,0,none⟩)) 61
  have ht2:=ta_ps (.pointer (some ⟨bs,0,none⟩)) 61
  have ht3:=ta_ph (.pointer (some ⟨bs,0,none⟩)) 61
  clear hv hb hw h1
  go_enter Tryz.func142,Tryz.ntmps142
  go_wp2_with fail
  refine (show Calls _ _ _ _ _ from HFN.out).mono ?_
  rintro e w1 ⟨gg,rfl,hb1⟩
  have HB1:Hid (Below w.heap.size w w1):=hb1
  clear hb1
  go_wp2_with fail
  refine (show Calls _ _ _ _ _ from thNew _ _ _).mono ?_
  rintro e w2 ⟨bt,g,rfl,hg1,hg2,hrg,hrb,hb2⟩
  have HB2:Hid (Below w.heap.size w w2):=HB1.out.trans (hb2.mono HB1.out.size)
  have HV2:Hid (w2.heap[bv]?=some (vC 5 (phB bs))):=keep_row HV.out HB2.out
  have HRG:Hid _:=hrg
  have HRB:Hid _:=hrb
  have HGG:Hid (w.heap.size ≤ g∧g < bt):=⟨Nat.le_trans HB1.out.size hg1,hg2⟩
  have HLT:Hid (bv < w.heap.size):=row_lt HV.out
  clear hg1 hg2 hrg hrb hb2 c0 c1 cf
  have h2:=HV2.out
  unfold vC phB at h2
  obtain ⟨c0,c1,cf⟩:=prow2 h2
  clear h2
  go_wp2
  go_returns
  have hl:=HLT.out
  obtain ⟨h3,h4⟩:=HGG.out
  refine ⟨rfl,bt,g,h3,h4,?_,?_,?_,(Mod.of HB2.out).trans (Mod.only ((Only.refl _ _).set _ _))⟩
  · rw [heap_setCell_same _ _ _ _ _ _ HV2.out]; rfl
  · rw [heap_setCell_other _ _ _ _ (show g ≠ bv by omega)]; exact HRG.out
  · rw [heap_setCell_other _ _ _ _ (show bt ≠ bv by omega)]; exact HRB.out
set_option maxHeartbeats 4000000 in
set_option maxRecDepth 100000 in
theorem joinF_th (bv bt g X cx:Nat) (hgb:g < bt) (v:ByteArray) (hv:v.size ≤ 524288) (w:World) (hbv:w.heap[bv]?=some (vC 5 (thB bt))) (hg:w.heap[g]?=some (.cells (S8.dcells none 0 0 0) 487)) (hb:w.heap[bt]?=some (thC g 0)) (hX:w.heap[X]?=some (fC ⟨#[97]⟩ v)) :
    Calls Tryz.prog 74 #[.pointer (some ⟨bv,0,none⟩),.slice (some ⟨X,0,none⟩) 1 cx] w fun e w'=>e=.returned (.int .i64 1)∧∃ B E c,S8.DW w' g B E c v∧w'.heap[bt]?=some (thC g (1 + v.size))∧S8.Md g bt w w':=by
  have HAS:Hid _:=asHash_th bv bt w hbv
  have HTP:Hid _:=tput_one bt g X cx hgb v hv w hg hb hX
  clear hbv hg hb hX
  go_enter Tryz.func74,Tryz.ntmps74
  go_wp2_with fail
  refine (show Calls _ _ _ _ _ from HAS.out).mono ?_
  rintro e w1 ⟨rfl,rfl⟩
  unfold thB
  go_wp2_with fail
  refine (show Calls _ _ _ _ _ from HTP.out).mono ?_
  rintro e w2 ⟨rfl,h⟩
  have H2:Hid _:=h
  clear h
  go_wp2
  go_ret
  exact ⟨rfl,H2.out⟩
end Go.Proofs.YtiefeeoellagnaaGreatDoor.V
namespace Go.Proofs.YtiefeeoellagnaaGreatDoor.V
open Go.RowKit
open S6 (Laid Lay)
set_option linter.unusedVariables false
set_option linter.unusedSimpArgs false
def Hashed (w w':World) (bv:Nat) (v:ByteArray):Prop:=∃ bt g B E c,w'.heap[bv]?=some (vC 5 (thB bt))∧w'.heap[bt]?=some (thC g (1 + v.size))∧S8.DW w' g B E c v
abbrev Oth (bs bv:Nat) (w w':World):Prop:=S8.Md bs bv w w'
theorem lay_mod {w0 w w':World} {b:Nat} (h:Lay w0) (hb:Below w0.heap.size w0 w) (hm:Mod b w w') (hle:w0.heap.size ≤ b):Lay w':=h.on (hb.trans (hm.below hle hb.size))
set_option maxHeartbeats 4000000 in
set_option maxRecDepth 100000 in
theorem joinF_pk (bv bs X cx:Nat) (n s:Int) (v:ByteArray) (hv:v.size ≤ 524288) (hbig:s < (v.size:Int)) (w0 w:World) (hw0:Lay w0) (hB0:Below w0.heap.size w0 w) (hle:w0.heap.size ≤ bs) (hbv:w.heap[bv]?=some (vC 5 (phB bs))) (hb:w.heap[bs]?=some (pkC 142 n s 2 2 EP 0 0)) (hX:w.heap[X]?=some (fC ⟨#[97]⟩ v)) :
    Calls Tryz.prog 74 #[.pointer (some ⟨bv,0,none⟩),.slice (some ⟨X,0,none⟩) 1 cx] w fun e w'=>e=.returned (.int .i64 1)∧Hashed w w' bv v∧Oth bs bv w w':=by
  have HAS:Hid _:=asHash_pk bv bs w hbv
  have HPR:Hid _:=put_refused bs X cx n s ⟨#[97]⟩ v hbig w (hw0.on hB0) hb hX
  have HV:Hid _:=hbv
  have HX:Hid _:=hX
  have HW:Hid (∀ W,Mod bs w W → Lay W):=fun W hm=>lay_mod hw0 hB0 hm hle
  have HNV:Hid (bv ≠ bs):=fun e=>by subst e; rw [hb] at hbv; simp [vC,pkC] at hbv
  have HNX:Hid (X ≠ bs):=fun e=>by subst e; rw [hb] at hX; simp [fC,pkC] at hX
  have HNW:Hid (X ≠ bv):=fun e=>by subst e; rw [hbv] at hX; simp [fC,vC] at hX
  have HBS:Hid (bs < w.heap.size):=row_lt hb
  clear hbv hb hX hw0 hB0 hle
  go_enter Tryz.func74,Tryz.ntmps74
  go_wp2_with fail
  refine (show Calls _ _ _ _ _ from HAS.out).mono ?_
  rintro e w1 ⟨rfl,rfl⟩
  unfold phB
  go_wp2_with fail
  refine (show Calls _ _ _ _ _ from HPR.out).mono ?_
  rintro e w2 ⟨rfl,hb2,hm2⟩
  have HV2:Hid (w2.heap[bv]?=some (vC 5 (phB bs))):=hm2.row HV.out HNV.out
  have HX2:Hid (w2.heap[X]?=some (fC ⟨#[97]⟩ v)):=hm2.row HX.out HNX.out
  have HM2:Hid (Mod bs w1 w2):=hm2
  have HGR:Hid _:=grow_hash bv bs n s 2 2 0 0 w2 (HW.out _ hm2) HV2.out hb2
  clear hb2 hm2
  go_wp2_with fail
  refine (show Calls _ _ _ _ _ from HGR.out).mono ?_
  rintro e w3 ⟨rfl,bt,g,h1,h2,hv3,hg3,hb3,hm3⟩
  have HX3:Hid (w3.heap[X]?=some (fC ⟨#[97]⟩ v)):=hm3.row HX2.out HNW.out
  have HJN:Hid _:=joinF_th bv bt g X cx h2 v hv w3 hv3 hg3 hb3 HX3.out
  have HM3:Hid (Mod bv w2 w3):=hm3
  have HV3:Hid (w3.heap[bv]?=some (vC 5 (thB bt))):=hv3
  have HGB:Hid (w2.heap.size ≤ g∧g < bt):=⟨h1,h2⟩
  clear h1 h2 hv3 hg3 hb3 hm3
  go_wp2_with fail
  refine (show Calls _ _ _ _ _ from HJN.out).mono ?_
  rintro e w4 ⟨rfl,B,E,c,hD,hb4,ho4⟩
  have H4:Hid (Hashed w1 w4 bv v∧Oth bs bv w1 w4):=by
    obtain ⟨q1,q2⟩:=HGB.out
    have q3:=row_lt HV2.out
    have q4:=HM2.out.size
    have q5:=HM3.out.size
    refine ⟨⟨bt,g,B,E,c,(ho4.oth bv (row_lt HV3.out) (by omega) (by omega)).trans HV3.out,hb4,hD⟩,⟨ho4.os.trans (HM3.out.os.trans HM2.out.os),ho4.tape.trans (HM3.out.tape.trans HM2.out.tape),ho4.output.trans (HM3.out.output.trans HM2.out.output),Nat.le_trans q4 (Nat.le_trans q5 ho4.size),fun k hk k1 k2=>?_⟩⟩
    rw [ho4.oth k (by omega) (by omega) (by omega),HM3.out.oth k (by omega) k2,HM2.out.oth k hk k1]
  clear hD hb4 ho4
  go_wp2
  go_ret
  exact ⟨rfl,H4.out⟩
def lo:ByteArray:=⟨#[108,111,110,103,32,111,110,101]⟩
set_option maxHeartbeats 4000000 in
set_option maxRecDepth 100000 in
theorem Put_pk (bv bs X cx:Nat) (n s:Int) (hs:s < 8) (w0 w:World) (hw0:Lay w0) (hB0:Below w0.heap.size w0 w) (hle:w0.heap.size ≤ bs) (hbv:w.heap[bv]?=some (vC 5 (phB bs))) (hb:w.heap[bs]?=some (pkC 142 n s 2 2 EP 0 0)) (hX:w.heap[X]?=some (fC ⟨#[97]⟩ lo)) :
    Calls Tryz.prog 22 #[.pointer (some ⟨bv,0,none⟩),.slice (some ⟨X,0,none⟩) 1 cx] w fun e w'=>e=.returned (.tuple #[.int .i64 1,.int .i64 0])∧Hashed w w' bv lo∧Oth bs bv w w':=by
  have HAS:Hid _:=asHash_pk bv bs w hbv
  have HIT:Hid _:=inTurns_one X cx ⟨#[97]⟩ lo w hX
  have HAL:Hid (∀ v' W,SRow W v' [⟨#[97]⟩,lo] → Calls Tryz.prog 68 #[v'] W fun e w'=>e=.returned (.bool false)∧Below W.heap.size W w'):=fun v' W h=>anyLong_any v' [⟨#[97]⟩,lo] (by simp) W h
  have HTM:Hid (∀ v' W,Below w.heap.size w W → SRow W v' [⟨#[97]⟩] → Calls Tryz.prog 69 #[phB bs,v'] W fun e w'=>e=.returned (.bool false)∧w'=W):=fun v' W hW h=>tooMany_pk bs n s 2 2 0 0 EP v' [⟨#[97]⟩] W h (by omega) (by simp) (keep_row hb hW)
  have HJF:Hid (∀ W,Below w.heap.size w W → Calls Tryz.prog 74 #[.pointer (some ⟨bv,0,none⟩),.slice (some ⟨X,0,none⟩) 1 cx] W fun e w'=>e=.returned (.int .i64 1)∧Hashed W w' bv lo∧Oth bs bv W w'):=fun W hW=>joinF_pk bv bs X cx n s lo (by decide) (by show s < 8; exact hs) w0 W hw0 (hB0.trans (hW.mono hB0.size)) hle (keep_row hbv hW) (keep_row hb hW) (keep_row hX hW)
  clear hbv hb hX hw0 hB0 hle
  go_enter Tryz.func22,Tryz.ntmps22
  go_wp2_with fail
  refine (show Calls _ _ _ _ _ from HAS.out).mono ?_
  rintro e w1 ⟨rfl,rfl⟩
  go_wp2_with fail
  refine (show Calls _ _ _ _ _ from HIT.out).mono ?_
  rintro e w2 ⟨v2,rfl,hs2,hb2⟩
  have HS2:Hid (SRow w2 v2 [⟨#[97]⟩,lo]):=hs2
  have HB2:Hid (Below w1.heap.size w1 w2):=hb2
  clear hs2 hb2
  go_wp2_with fail
  refine (show Calls _ _ _ _ _ from HAL.out _ _ HS2.out).mono ?_
  rintro e w3 ⟨rfl,hb3⟩
  have HS3:Hid (SRow w3 v2 [⟨#[97]⟩,lo]):=HS2.out.on hb3
  have HB3:Hid (Below w1.heap.size w1 w3):=HB2.out.trans (hb3.mono HB2.out.size)
  clear hb3
  go_wp2_with fail
  refine (show Calls _ _ _ _ _ from namesIn_two _ _ _ _ HS3.out).mono ?_
  rintro e w4 ⟨v4,rfl,hs4,hb4⟩
  have HS4:Hid (SRow w4 v4 [⟨#[97]⟩]):=hs4
  have HB4:Hid (Below w1.heap.size w1 w4):=HB3.out.trans (hb4.mono HB3.out.size)
  clear hb4 hs4
  go_wp2_with fail
  refine (show Calls _ _ _ _ _ from HTM.out _ _ HB4.out HS4.out).mono ?_
  rintro e w5 ⟨rfl,rfl⟩
  go_wp2_with fail
  refine (show Calls _ _ _ _ _ from HJF.out _ HB4.out).mono ?_
  rintro e w6 ⟨rfl,hh,ho⟩
  have H6:Hid (Hashed w1 w6 bv lo∧Oth bs bv w1 w6):=⟨hh,(S8.Md.of HB4.out).trans ho⟩
  clear hh ho
  go_wp2
  go_ret2
  exact ⟨rfl,H6.out⟩
set_option maxHeartbeats 1000000 in
set_option maxRecDepth 20000 in
theorem tfield (bt g B E c:Nat) (x:Int) (v:ByteArray) (hv:v.size ≤ 524288) (w:World) (hb:w.heap[bt]?=some (thC g x)) (hD:S8.DW w g B E c v):Calls Tryz.prog 622 #[.pointer (some ⟨bt,0,none⟩),.string ⟨#[97]⟩] w fun e w'=>e=.returned (.tuple #[.string v,.bool true])∧Below w.heap.size w w':=by
  have HGO:Hid _:=S8.Get_one g B E c v w hD
  have HCL:Hid (∀ W,Calls Tryz.prog 77 #[.string v] W fun e w'=>e=.returned (.string v)∧Below W.heap.size W w'):=fun W=>S8.clone_any v (by omega) W
  unfold thC wgF at hb
  obtain ⟨c0,c1,c2,cf⟩:=row3 hb
  clear hb hD
  go_enter Tryz.func622,Tryz.ntmps622
  go_wp2_with fail
  refine (show Calls _ _ _ _ _ from HGO.out).mono ?_
  rintro e w1 ⟨rfl,hb1⟩
  have HB1:Hid _:=hb1
  clear hb1 c0 c1 c2 cf
  go_wp2_with fail
  refine (show Calls _ _ _ _ _ from HCL.out _).mono ?_
  rintro e w2 ⟨rfl,hb2⟩
  have HB2:Hid (Below w.heap.size w w2):=HB1.out.trans (hb2.mono HB1.out.size)
  clear hb2
  go_wp2
  go_ret2
  exact ⟨rfl,HB2.out⟩
set_option maxHeartbeats 1000000 in
set_option maxRecDepth 20000 in
theorem Field_th (bv bt g B E c:Nat) (x:Int) (v:ByteArray) (hv:v.size ≤ 524288) (w:World) (hbv:w.heap[bv]?=some (vC 5 (thB bt))) (hb:w.heap[bt]?=some (thC g x)) (hD:S8.DW w g B E c v):Calls Tryz.prog 23 #[.pointer (some ⟨bv,0,none⟩),.string ⟨#[97]⟩] w fun e w'=>e=.returned (.tuple #[.string v,.bool true,.int .i64 0])∧Below w.heap.size w w':=by
  have HAS:Hid _:=asHash_th bv bt w hbv
  have HTF:Hid _:=tfield bt g B E c x v hv w hb hD
  clear hbv hb hD
  go_enter Tryz.func23,Tryz.ntmps23
  go_wp2_with fail
  refine (show Calls _ _ _ _ _ from HAS.out).mono ?_
  rintro e w1 ⟨rfl,rfl⟩
  unfold thB
  go_wp2_with fail
  refine (show Calls _ _ _ _ _ from HTF.out).mono ?_
  rintro e w2 ⟨rfl,hb2⟩
  have HB2:Hid _:=hb2
  clear hb2
  go_wp2
  go_returns
  exact ⟨rfl,HB2.out⟩
set_option maxHeartbeats 1000000 in
set_option maxRecDepth 20000 in
theorem Enc_th (bv bt g:Nat) (x:Int) (w:World) (hbv:w.heap[bv]?=some (vC 5 (thB bt))) (hb:w.heap[bt]?=some (thC g x)):Calls Tryz.prog 24 #[.pointer (some ⟨bv,0,none⟩)] w fun e w'=>e=.returned (.string ⟨#[104,97,115,104,116,97,98,108,101]⟩)∧w'=w:=by
  unfold vC thB at hbv
  obtain ⟨c0,c1,cf⟩:=prow2 hbv
  unfold thC wgF at hb
  obtain ⟨d0,d1,d2,df⟩:=row3 hb
  clear hbv hb
  go_enter Tryz.func24,Tryz.ntmps24
  go_wp2
  go_returns
  exact ⟨rfl,rfl⟩
end Go.Proofs.YtiefeeoellagnaaGreatDoor.V
namespace Go.Proofs.YtiefeeoellagnaaGreatDoor.V
open Go.RowKit S5.IM
open S6 (Laid Lay)
set_option linter.unusedVariables false
set_option linter.unusedSimpArgs false
def t0:TH:=⟨2,8,3,3,4,2,4,2,4⟩
theorem srow_three (W:World):SRow (W.alloc (.cells #[.string ⟨#[51]⟩,.string ⟨#[49]⟩,.string ⟨#[51]⟩] 9)) (.slice (some ⟨W.heap.size,0,none⟩) 3 3) three:=by
  have h:=one_alloc W (.cells #[.string ⟨#[51]⟩,.string ⟨#[49]⟩,.string ⟨#[51]⟩] 9)
  refine Or.inr ⟨W.heap.size,0,3,rfl,fun j hj=>?_⟩
  rw [cell_of_row _ _ _ _ _ _ h]
  match j,hj with
  | 0,_=>rfl
  | 1,_=>rfl
  | 2,_=>rfl
set_option maxHeartbeats 8000000 in
set_option maxRecDepth 100000 in
theorem works_any (w:World) (hw:Lay w):Calls Tryz.prog 7 #[] w fun e w'=>e=.returned (.bool true)∧Below w.heap.size w w':=by
  have ht:okT t0=true:=by decide
  have HW:Hid (Lay w):=hw
  obtain ⟨W1,hW1⟩:∃ W1,W1=w.alloc (.cells #[.int .i64 2,.int .i64 8,.int .i64 3,.int .i64 3,.int .i64 4,.int .i64 2,.int .i64 4,.int .i64 2,.int .i64 4] 23):=⟨_,rfl⟩
  obtain ⟨r,hr⟩:∃ r,w.heap.size=r:=⟨_,rfl⟩
  have HR1:Hid (W1.heap[r]?=some (.cells #[.int .i64 2,.int .i64 8,.int .i64 3,.int .i64 3,.int .i64 4,.int .i64 2,.int .i64 4,.int .i64 2,.int .i64 4] 23)):=by show _=_; rw [hW1,← hr]; exact one_alloc _ _
  have HB1:Hid (Below w.heap.size w W1):=by show Below _ _ _; rw [hW1]; exact (Below.refl _ _).alloc (Nat.le_refl _) _
  have HRR:Hid (w.heap.size=r):=hr
  have HNS:Hid (Calls Tryz.prog 5 #[.int .i64 3,.agg #[.int .i64 2,.int .i64 8,.int .i64 3,.int .i64 3,.int .i64 4,.int .i64 2,.int .i64 4,.int .i64 2,.int .i64 4]] W1 fun e w'=>∃ bv bs,e=.returned (.tuple #[.pointer (some ⟨bv,0,none⟩),.int .i64 0])∧W1.heap.size ≤ bs∧bs < bv∧w'.heap[bs]?=some (isC 3 3 4 (S5.strB (txt 2 [])) 0 0)∧w'.heap[bv]?=some (vC 3 (isB bs))∧Below W1.heap.size W1 w'):=New_set t0 ht W1
  have HNH:Hid (∀ W,Lay W → Calls Tryz.prog 5 #[.int .i64 5,.agg #[.int .i64 2,.int .i64 8,.int .i64 3,.int .i64 3,.int .i64 4,.int .i64 2,.int .i64 4,.int .i64 2,.int .i64 4]] W fun e w'=>∃ bv bs,e=.returned (.tuple #[.pointer (some ⟨bv,0,none⟩),.int .i64 0])∧W.heap.size ≤ bs∧bs < bv∧w'.heap[bs]?=some (pkC 142 2 4 2 2 EP 0 0)∧w'.heap[bv]?=some (vC 5 (phB bs))∧Below W.heap.size W w'):=fun W h=>New_hash t0 ht W h
  clear hw ht hr
  go_enter Tryz.func7,Tryz.ntmps7
  go_wp2_with fail
  rw [← hW1]
  refine (show Calls _ _ _ _ _ from HNS.out).mono ?_
  rintro e w2 ⟨bv,bs,rfl,h1,h2,hs2,hv2,hb2⟩
  rw [HRR.out]
  have HB2:Hid (Below w.heap.size w w2):=HB1.out.trans (hb2.mono HB1.out.size)
  have HR2:Hid _:=keep_row HR1.out hb2
  have HS2:Hid (w2.heap[bs]?=some (isC 3 3 4 (S5.strB (txt 2 [])) 0 0)):=hs2
  have HV2:Hid (w2.heap[bv]?=some (vC 3 (isB bs))):=hv2
  have HLE:Hid (r < bs∧bs < bv):=⟨Nat.lt_of_lt_of_le (row_lt HR1.out) h1,h2⟩
  clear h1 h2 hs2 hv2 hb2 hW1
  have HAD:Hid (Calls Tryz.prog 20 #[.pointer (some ⟨bv,0,none⟩),.slice (some ⟨w2.heap.size,0,none⟩) 3 3] (w2.alloc (.cells #[.string ⟨#[51]⟩,.string ⟨#[49]⟩,.string ⟨#[51]⟩] 9)) fun e w'=>e=.returned (.tuple #[.int .i64 2,.int .i64 0])∧w'.heap[bs]?=some (isC 3 3 4 (S5.strB (txt 2 [1,3])) 2 2)∧Mod bs (w2.alloc (.cells #[.string ⟨#[51]⟩,.string ⟨#[49]⟩,.string ⟨#[51]⟩] 9)) w'):=
    Add_three bv bs 3 3 4 (by omega) _ _ ((HW.out.on HB2.out).on ((Below.refl _ _).alloc (Nat.le_refl _) _)).laid (keep_row HV2.out ((Below.refl _ _).alloc (Nat.le_refl _) _)) (keep_row HS2.out ((Below.refl _ _).alloc (Nat.le_refl _) _)) (srow_three w2)
  go_wp2_with fail
  refine (show Calls _ _ _ _ _ from HAD.out).mono ?_
  rintro e w4 ⟨rfl,hs4,hm4⟩
  have HM4:Hid (Mod bs w2 w4):=(Mod.of ((Below.refl _ _).alloc (Nat.le_refl _) _)).trans hm4
  have HS4:Hid (w4.heap[bs]?=some (isC 3 3 4 (S5.strB (txt 2 [1,3])) 2 2)):=hs4
  have HV4:Hid (w4.heap[bv]?=some (vC 3 (isB bs))):=HM4.out.row HV2.out (by have:=HLE.out; omega)
  have HR4:Hid _:=HM4.out.row HR2.out (by have:=HLE.out; omega)
  have HB4:Hid (Below w.heap.size w w4):=HB2.out.trans (HM4.out.below (by rw [HRR.out]; have:=HLE.out; omega) HB2.out.size)
  clear hs4 hm4
  have HHS:Hid _:=Has_three bv bs 3 3 4 2 2 w4 (HW.out.on HB4.out).laid HV4.out HS4.out
  go_wp2_with fail
  refine (show Calls _ _ _ _ _ from HHS.out).mono ?_
  rintro e w5 ⟨rfl,hb5⟩
  have HB5:Hid (Below w.heap.size w w5):=HB4.out.trans (hb5.mono HB4.out.size)
  have HS5:Hid (w5.heap[bs]?=some (isC 3 3 4 (S5.strB (txt 2 [1,3])) 2 2)):=keep_row HS4.out hb5
  have HV5:Hid (w5.heap[bv]?=some (vC 3 (isB bs))):=keep_row HV4.out hb5
  have HR5:Hid (w5.heap[r]?=some (.cells #[.int .i64 2,.int .i64 8,.int .i64 3,.int .i64 3,.int .i64 4,.int .i64 2,.int .i64 4,.int .i64 2,.int .i64 4] 23)):=keep_row HR4.out hb5
  clear hb5
  have HKS:Hid (w5.cell? ⟨r,0,none⟩=some (.int .i64 2)∧w5.cell? ⟨r,1,none⟩=some (.int .i64 8)∧w5.cell? ⟨r,2,none⟩=some (.int .i64 3)∧w5.cell? ⟨r,3,none⟩=some (.int .i64 3)∧w5.cell? ⟨r,4,none⟩=some (.int .i64 4)∧w5.cell? ⟨r,5,none⟩=some (.int .i64 2)∧w5.cell? ⟨r,6,none⟩=some (.int .i64 4)∧w5.cell? ⟨r,7,none⟩=some (.int .i64 2)∧w5.cell? ⟨r,8,none⟩=some (.int .i64 4)):=by
    refine ⟨?_,?_,?_,?_,?_,?_,?_,?_,?_⟩ <;> rw [cell_of_row _ _ _ _ _ _ HR5.out] <;> rfl
  obtain ⟨x0,x1,x2,x3,x4,x5,x6,x7,x8⟩:=HKS.out
  have HN5:Hid _:=HNH.out w5 (HW.out.on HB5.out)
  go_wp2_with fail
  refine (show Calls _ _ _ _ _ from HN5.out).mono ?_
  rintro e w6 ⟨bw,bh,rfl,h1,h2,hh6,hw6,hb6⟩
  clear x0 x1 x2 x3 x4 x5 x6 x7 x8
  have HB6:Hid (Below w.heap.size w w6):=HB5.out.trans (hb6.mono HB5.out.size)
  have HS6:Hid (w6.heap[bs]?=some (isC 3 3 4 (S5.strB (txt 2 [1,3])) 2 2)):=keep_row HS5.out hb6
  have HV6:Hid (w6.heap[bv]?=some (vC 3 (isB bs))):=keep_row HV5.out hb6
  have HH6:Hid (w6.heap[bh]?=some (pkC 142 2 4 2 2 EP 0 0)):=hh6
  have HW6:Hid (w6.heap[bw]?=some (vC 5 (phB bh))):=hw6
  have HLW:Hid (w5.heap.size ≤ bh∧bh < bw):=⟨h1,h2⟩
  have HSZ:Hid (bs < w5.heap.size∧bv < w5.heap.size):=⟨row_lt HS5.out,row_lt HV5.out⟩
  clear h1 h2 hh6 hw6 hb6
  obtain ⟨W7,hW7⟩:∃ W7,W7=w6.alloc (.cells #[.string ⟨#[97]⟩,.string lo] 83):=⟨_,rfl⟩
  have HB67:Hid (Below w6.heap.size w6 W7):=by show Below _ _ _; rw [hW7]; exact (Below.refl _ _).alloc (Nat.le_refl _) _
  have HX7:Hid (W7.heap[w6.heap.size]?=some (fC ⟨#[97]⟩ lo)):=by show _=_; rw [hW7]; exact one_alloc _ _
  have HB7:Hid (Below w.heap.size w W7):=HB6.out.trans (HB67.out.mono HB6.out.size)
  have HPT:Hid _:=Put_pk bw bh w6.heap.size 1 2 4 (by omega) w W7 HW.out HB7.out (by have h1:=HLW.out; have h2:=HB5.out.size; omega) (keep_row HW6.out HB67.out) (keep_row HH6.out HB67.out) HX7.out
  unfold lo at hW7
  go_wp2_with fail
  rw [← hW7]
  refine (show Calls _ _ _ _ _ from HPT.out).mono ?_
  rintro e w8 ⟨rfl,⟨bt,g,B,E,c,hw8,ht8,hD8⟩,ho8⟩
  have HS8:Hid (w8.heap[bs]?=some (isC 3 3 4 (S5.strB (txt 2 [1,3])) 2 2)):=(ho8.oth bs (row_lt (keep_row HS6.out HB67.out)) (by have h1:=HLW.out; have h2:=HSZ.out; omega) (by have h1:=HLW.out; have h2:=HSZ.out; omega)).trans (keep_row HS6.out HB67.out)
  have HV8:Hid (w8.heap[bv]?=some (vC 3 (isB bs))):=(ho8.oth bv (row_lt (keep_row HV6.out HB67.out)) (by have h1:=HLW.out; have h2:=HSZ.out; omega) (by have h1:=HLW.out; have h2:=HSZ.out; omega)).trans (keep_row HV6.out HB67.out)
  have HB8:Hid (Below w.heap.size w w8):=HB7.out.trans ⟨ho8.os,ho8.tape,ho8.output,ho8.size,fun k hk=>ho8.oth k (Nat.lt_of_lt_of_le hk HB7.out.size) (by have h1:=HLW.out; have h2:=HB5.out.size; omega) (by have h1:=HLW.out; have h2:=HB5.out.size; omega)⟩
  have HFD:Hid _:=Field_th bw bt g B E c _ lo (by decide) w8 hw8 ht8 hD8
  have HW8:Hid (w8.heap[bw]?=some (vC 5 (thB bt))):=hw8
  have HT8:Hid (w8.heap[bt]?=some (thC g (1 + lo.size))):=ht8
  clear hw8 ht8 hD8 ho8 hW7
  go_wp2_with fail
  refine (show Calls _ _ _ _ _ from HFD.out).mono ?_
  rintro e w9 ⟨rfl,hb9⟩
  have HB9:Hid (Below w.heap.size w w9):=HB8.out.trans (hb9.mono HB8.out.size)
  have HE1:Hid _:=Enc_set bv bs w9 (keep_row HV8.out hb9)
  have HE2:Hid _:=Enc_th bw bt g _ w9 (keep_row HW8.out hb9) (keep_row HT8.out hb9)
  have HLN:Hid _:=Len_set bv bs 3 3 4 2 2 _ w9 (keep_row HV8.out hb9) (keep_row HS8.out hb9)
  clear hb9
  unfold lo
  go_wp2_with fail
  refine (show Calls _ _ _ _ _ from HE1.out).mono ?_
  rintro e wx ⟨rfl,rfl⟩
  go_wp2_with fail
  refine (show Calls _ _ _ _ _ from HE2.out).mono ?_
  rintro e wx ⟨rfl,rfl⟩
  go_wp2_with fail
  refine (show Calls _ _ _ _ _ from HLN.out).mono ?_
  rintro e wx ⟨rfl,rfl⟩
  go_wp2
  go_ret
  exact ⟨rfl,HB9.out⟩
end Go.Proofs.YtiefeeoellagnaaGreatDoor.V
