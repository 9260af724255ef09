import Derived.Test.YtiefeeoellagnaaGreatDoorGC
import Derived.Test.YtiefeeoellagnaaGreatDoorGL
import Derived.Test.YtiefeeoellagnaaGreatDoorAC
import Derived.Carry
import Derived.Stop.Asserts
import Derived.Test.YtiefeeoellagnaaGreatDoorFH
namespace Go.Proofs.YtiefeeoellagnaaGreatDoor.V
open Go.RowKit S5.IM Go.Maps
open S5 (HoldsI)
open S6 (Laid itoaB numT)
set_option linter.unusedVariables false
set_option linter.unusedSimpArgs false
theorem set_nil:IsSet (S5.strB (txt 2 [])).data.toList 2 []:=⟨S5.strB_list _,Or.inl rfl,by simp,by simp [Rise],by simp⟩
set_option maxRecDepth 20000 in
theorem numbers_any (b:Nat) (m n s z x:Int) (p:ByteArray) (V:Nat) (l:List Int) (h:IsSet p.data.toList V l) (w:World) (hb:w.heap[b]?=some (isC m n s p z x)) :
    Calls Tryz.prog 301 #[.pointer (some ⟨b,0,none⟩)] w fun e w'=>∃ g,e=.returned (.slice (some ⟨g,0,none⟩) l.length l.length)∧(∀ j,(hj:j < l.length) → w'.cell? ⟨g,j,none⟩=some (.int .i64 l[j]))∧Below w.heap.size w w':=by
  have HA:Hid _:=S5.all_setP p V l h w
  unfold isC at hb
  obtain ⟨c0,c1,c2,c3,c4,c5,cf⟩:=row6 hb
  clear hb h
  go_enter Tryz.func301,Tryz.ntmps301
  go_wp2_with fail
  refine (show Calls _ _ _ _ _ from HA.out).mono ?_
  rintro e w1 ⟨g,rfl,hc,hb⟩
  have HC:Hid (∀ j,(hj:j < l.length) → w1.cell? ⟨g,j,none⟩=some (.int .i64 l[j])):=hc
  have HB:Hid _:=hb
  clear hc hb
  go_wp2
  go_ret
  exact ⟨g,rfl,HC.out,HB.out⟩
def D0:DataW Unit:=.map []
def D1:DataW Unit:=D0.put (.int .i64 3) (.agg [])
def D2:DataW Unit:=D1.put (.int .i64 1) (.agg [])
def Dn (i:Nat):DataW Unit:=if i=0 then D0 else if i=1 then D1 else D2
def Nn (i:Nat):Int:=if i=1 then 1 else 3
theorem dn_has (i:Nat) (hi:i < 3):Maps.has (Dn i) (.int .i64 (Nn i))=decide (i=2):=by
  match i,hi with
  | 0,_=>rfl
  | 1,_=>rfl
  | 2,_=>rfl
theorem dn_size (i:Nat) (hi:i < 3):Maps.size (Dn i)=i:=by
  match i,hi with
  | 0,_=>rfl
  | 1,_=>rfl
  | 2,_=>rfl
theorem dn_put (i:Nat) (hi:i < 2):(Dn i).put (.int .i64 (Nn i)) (.agg [])=Dn (i + 1):=by
  match i,hi with
  | 0,_=>rfl
  | 1,_=>rfl
theorem dn_keys:intKeys (Dn 3)=[1,3]:=rfl
theorem dn_three:Maps.size (Dn 3)=2:=rfl
end Go.Proofs.YtiefeeoellagnaaGreatDoor.V
namespace Go.Proofs.YtiefeeoellagnaaGreatDoor.V
open Go.RowKit S5.IM Go.Maps
open S5 (HoldsI)
open S6 (Laid itoaB numT)
set_option linter.unusedVariables false
set_option linter.unusedSimpArgs false
def three:List ByteArray:=[⟨#[51]⟩,⟨#[49]⟩,⟨#[51]⟩]
theorem keyed3:Keyed Tryz.prog 3:=int_keyed (q:=.i64) (by kernel_rfl)
theorem three_num (i:Nat) (hi:i < 3):numT (three[i]'hi).data.toList=.tuple #[.int .i64 (Nn i),.bool true]:=by
  match i,hi with
  | 0,_=>exact S6.numT_some (by show Vi.numberOf [51]=some 3; decide +kernel)
  | 1,_=>exact S6.numT_some (by show Vi.numberOf [49]=some 1; decide +kernel)
  | 2,_=>exact S6.numT_some (by show Vi.numberOf [51]=some 3; decide +kernel)
theorem three_size (i:Nat) (hi:i < 3):(three[i]'hi).size ≤ 281474976710656:=by
  match i,hi with
  | 0,_=>exact (show (1:Nat) ≤ 281474976710656 by decide)
  | 1,_=>exact (show (1:Nat) ≤ 281474976710656 by decide)
  | 2,_=>exact (show (1:Nat) ≤ 281474976710656 by decide)
theorem two_sorted {ss:List Int} (h:ss.Perm [1,3]):ss.mergeSort (fun x y=>decide (x ≤ y))=[1,3]:=by
  refine List.Perm.eq_of_pairwise (le:=fun a b=>decide (a ≤ b)=true) ?_ (List.pairwise_mergeSort ?_ ?_ ss) (by decide) ((List.mergeSort_perm _ _).trans h)
  · intro a b _ _ h1 h2; simp at h1 h2; omega
  · intro a b c h1 h2; simp at *; omega
  · intro a b; simp; omega
theorem it1:itoaB 1=⟨#[49]⟩:=by unfold itoaB; rw [show Lib.itoa 1=[49] by decide +kernel]
theorem it3:itoaB 3=⟨#[51]⟩:=by unfold itoaB; rw [show Lib.itoa 3=[51] by decide +kernel]
theorem key_n (i:Nat):keyOf Tryz.prog 3 (.int .i64 (Nn i))=some (.int .i64 (Nn i)):=keyOf_int_mk (q:=.i64) (by kernel_rfl) (by unfold Nn; split <;> decide)
set_option maxHeartbeats 8000000 in
set_option maxRecDepth 100000 in
theorem add_three (b:Nat) (m n s:Int) (hm:3 ≤ m) (v:Value) (w:World) (hL:Laid w) (hb:w.heap[b]?=some (isC m n s (S5.strB (txt 2 [])) 0 0)) (hv:SRow w v three) :
    Calls Tryz.prog 485 #[.pointer (some ⟨b,0,none⟩),v] w fun e w'=>e=.returned (.tuple #[.int .i64 3,.int .i64 2])∧w'.heap[b]?=some (isC m n s (S5.strB (txt 2 [1,3])) 2 2)∧Mod b w w':=by
  have HNU:Hid _:=numbers_any b m n s 0 0 _ 2 [] set_nil w hb
  have HL:Hid (Laid w):=hL
  have HB:Hid (w.heap[b]?=some (isC m n s (S5.strB (txt 2 [])) 0 0)):=hb
  have HV:Hid (SRow w v three):=hv
  obtain ⟨q,cp,rfl⟩:=hv.form
  have h3:three.length=3:=rfl
  rw [h3] at *
  clear hb hv hL
  go_enter Tryz.func485,Tryz.ntmps485
  go_wp2_with fail
  refine (show Calls _ _ _ _ _ from HNU.out).mono ?_
  rintro e w1 ⟨g,rfl,-,hb1⟩
  obtain ⟨bm,hbm⟩:∃ bm,w1.heap.size=bm:=⟨_,rfl⟩
  obtain ⟨W2,hW2⟩:∃ W2,W2=w1.alloc (.map #[] 0):=⟨_,rfl⟩
  have HO2:Hid (W2.ownsMap Tryz.prog 3 unitElem bm 0 (Dn 0)):=by show World.ownsMap _ _ _ _ _ _ _; rw [hW2,← hbm]; exact World.ownsMap_made w1 Tryz.prog 3 unitElem
  have HBM:Hid (w.heap.size ≤ bm):=by show _ ≤ _; rw [← hbm]; exact hb1.size
  have HB2:Hid (Below w.heap.size w W2):=by show Below _ _ _; rw [hW2]; exact hb1.alloc hb1.size _
  clear hb1
  have hmm:=fun W=>run_makeMap (P:=Tryz.prog) 595 W
  go_wp2
  rw [← hW2]
  clear hW2 hbm
  go_loopw [8,23] (fun cd ci wr=>∃ i:Nat,i ≤ 3∧cd=.int .i64 (i:Int)∧ci=.int .i64 (i:Int)∧wr.ownsMap Tryz.prog 3 unitElem bm i (Dn i)∧Below w.heap.size w wr) (fun _ ci _=>3 - (intOf ci).toNat)
  case atStart=>exact ⟨0,by omega,rfl,rfl,HO2.out,HB2.out⟩
  case round =>
    obtain ⟨i,hi,rfl,rfl,hown,hbel⟩:=hrel
    have HO:Hid (wr.ownsMap Tryz.prog 3 unitElem bm i (Dn i)):=hown
    have HW:Hid (Below w.heap.size w wr):=hbel
    clear hown hbel
    by_cases hlt:i < 3
    · obtain ⟨gb,o,hP,hc1⟩:=(HV.out.on HW.out).cell i hlt
      subst hP
      have HN:Hid _:=S6.number_any (three[i]'hlt) (three_size i hlt) wr (HL.out.on HW.out)
      rw [three_num i hlt] at HN
      obtain ⟨X,hX⟩:∃ X,three[i]'hlt=X:=⟨_,rfl⟩
      rw [hX] at hc1 HN
      obtain ⟨N,hN⟩:∃ N,Nn i=N:=⟨_,rfl⟩
      rw [hN] at HN
      have HNN:Hid (Nn i=N):=hN
      have hz0:(0:Int) ≤ (i:Int):=by omega
      have hz1:(i:Int) < (3:Int):=by omega
      clear hX hN
      go_wp2_with fail
      refine (show Calls _ _ _ _ _ from HN.out).mono ?_
      rintro e w2 ⟨rfl,hb2⟩
      have HW2:Hid (Below w.heap.size w w2):=HW.out.trans (hb2.mono HW.out.size)
      have HO3:Hid (w2.ownsMap Tryz.prog 3 unitElem bm i (Dn i)):=by
        obtain ⟨es,cl,h1,h2,h3,h4⟩:=HO.out
        exact ⟨es,cl,keep_row h1 hb2,h2,h3,h4⟩
      clear hb2
      go_wp2_with fail
      refine (show Calls _ _ _ _ _ from BinSearch_nil _ _ _ _).mono ?_
      rintro e w3 ⟨rfl,rfl⟩
      go_upto_region 8 with fail
      have hlook:(Instr.lookup 595 (.map (some bm)) (.int .i64 N) true).run Tryz.prog w3=.ok (.tuple #[.agg #[],.bool (decide (i=2))]) w3:=by
        obtain ⟨v,ps,h1,h2⟩:=HO3.out.look_ok keyed3 (t:=595) (e:=312) (by kernel_rfl) (z:=.agg #[]) (by kernel_rfl) unitElem_mk (key_n i)
        obtain ⟨rfl,_⟩:=unitElem_inv h2
        rw [dn_has i hlt,HNN.out] at h1
        exact h1
      by_cases hi2:i=2
      · subst hi2
        rw [show decide ((2:Nat)=2)=true from rfl] at hlook
        go_wp2
        exact ⟨⟨3,by omega,rfl,rfl,(HO3.out.alloc _).mono (by omega),HW2.out.alloc HW2.out.size _⟩,by simp [intOf]⟩
      · have hd2:decide (i=2)=false:=by simpa using hi2
        rw [hd2] at hlook
        go_upto_region 10 with fail
        obtain ⟨W4,hW4⟩:∃ W4,W4=w3.alloc (.cells #[] 312):=⟨_,rfl⟩
        have HO4:Hid (W4.ownsMap Tryz.prog 3 unitElem bm i (Dn i)):=by show World.ownsMap _ _ _ _ _ _ _; rw [hW4]; exact HO3.out.alloc _
        have HW4:Hid (Below w.heap.size w W4):=by show Below _ _ _; rw [hW4]; exact HW2.out.alloc HW2.out.size _
        rw [← hW4]
        clear hW4 hlook
        have hlm:∀ k,(Builtin.len_ #[595] 3 #[.map (some bm)]).run Tryz.prog (W4.drewN k)=.ok (.int .i64 (i:Int)) (W4.drewN k):=fun k=>by
          have h1:(W4.drewN k).ownsMap Tryz.prog 3 unitElem bm i (Dn i):=HO4.out
          have:=h1.len (t:=595) (e:=312) (by kernel_rfl) 3
          rw [dn_size i hlt] at this
          exact this
        have hb4:=keep_row HB.out HW4.out
        unfold isC at hb4
        obtain ⟨c0,c1,c2,c3,c4,c5,cf⟩:=row6 hb4
        clear hb4
        have hge:¬ m ≤ (i:Int):=by omega
        go_quiet (fail)
        obtain ⟨W5,hW5⟩:∃ W5,W5=W4.drewN nq:=⟨_,rfl⟩
        have hO5:W5.ownsMap Tryz.prog 3 unitElem bm i (Dn i):=by rw [hW5]; exact HO4.out
        have HW5:Hid (Below w.heap.size w W5):=by show Below _ _ _; rw [hW5]; exact below_dn HW4.out _
        rw [← hW5]
        obtain ⟨w6,hst,hO6,ht6⟩:=hO5.store keyed3 (t:=595) (e:=312) (by kernel_rfl) (by unfold maxLen; omega) (key_n i) (val:=.agg #[]) unitElem_mk
        rw [dn_put i (by omega)] at hO6
        rw [HNN.out] at hst
        have HO6:Hid (w6.ownsMap Tryz.prog 3 unitElem bm (i + 1) (Dn (i + 1))):=hO6
        have HW6:Hid (Below w.heap.size w w6):=HW5.out.grown ht6.grown HW5.out.size (fun b hb=>by cases hb; exact HBM.out)
        clear hO5 hO6 ht6 hW5 hlm c0 c1 c2 c3 c4 c5 cf
        go_wp2
        go_roundw
        case rel=>exact ⟨i + 1,by omega,by simp,by simp,HO6.out,HW6.out⟩
        case measure=>simp [intOf]; omega
    · have hi3:i=3:=by omega
      subst hi3
      have hlm:(Builtin.len_ #[595] 3 #[.map (some bm)]).run Tryz.prog wr=.ok (.int .i64 2) wr:=HO.out.len (t:=595) (e:=312) (by kernel_rfl) 3
      have HKY:Hid _:=Keys_any (some bm) wr
      have HSO:Hid _:=Sorted_keys bm 3 (Dn 3) wr HO.out (by rw [dn_three]; unfold maxLen; omega) (by rw [dn_three]; omega)
      go_wp2_with fail
      refine (show Calls _ _ _ _ _ from HKY.out).mono ?_
      rintro e w2 ⟨rfl,rfl⟩
      go_wp2_with fail
      refine (show Calls _ _ _ _ _ from HSO.out).mono ?_
      rintro e w3 ⟨v3,ss,rfl,hp3,ho3,hb3⟩
      rw [dn_keys] at hp3
      rw [two_sorted hp3,hp3.length_eq] at ho3
      have HI3:Hid (HoldsI w3 v3 [1,3]):=S5.HoldsI.own (l:=[1,3]) ho3
      have HOR:Hid (w3.ownsRow wr.heap.size 3 1 v3 [(1:Int),3].length (S5.icells [1,3])):=ho3
      have HW3:Hid (Below w.heap.size w w3):=HW.out.trans (hb3.mono HW.out.size)
      obtain ⟨es,cl,hes,hfit,hsz,hDn⟩:=HO.out
      have HE3:Hid (w3.heap[bm]?=some (.map es cl)):=keep_row hes hb3
      have HEF:Hid (∀ W:World,W.heap[bm]?=some (.map es cl) → (Builtin.len_ #[595] 3 #[.map (some bm)]).run Tryz.prog W=.ok (.int .i64 2) W):=fun W h=>World.ownsMap.len (t:=595) (e:=312) (D:=Dn 3) (k:=3) (R:=unitElem) (n:=3) ⟨es,cl,h,hfit,hsz,hDn⟩ (by kernel_rfl) 3
      have HBB:Hid (b < w.heap.size):=row_lt HB.out
      clear hp3 ho3 hb3 hlm hes hfit hsz hDn
      have HDG:Hid (∀ W,Below w3.heap.size w3 W → Calls Tryz.prog 300 #[v3] W fun e w'=>∃ v',e=.returned v'∧SRow w' v' [itoaB 1,itoaB 3]∧Below W.heap.size W w'):=fun W hW=>digits_row v3 [1,3] (by simp) (by simp) W (HL.out.on (HW3.out.trans (hW.mono HW3.out.size))) (S5.HoldsI.keep HI3.out hW)
      have HWG:Hid (∀ v' W,SRow W v' [itoaB 1,itoaB 3] → Calls Tryz.prog 81 #[v'] W fun e w'=>e=.returned (.int .i64 2)∧Below W.heap.size W w'):=fun v' W h=>by
        have:=weigh_any v' [itoaB 1,itoaB 3] (by simp) (by rw [it1,it3]; decide) W h
        rw [it1,it3] at this
        exact this
      have hb3:=keep_row HB.out HW3.out
      have HB3:Hid (w3.heap[b]?=some (isC m n s (S5.strB (txt 2 [])) 0 0)):=hb3
      have HKS:Hid (∀ W,Below w3.heap.size w3 W → W.cell? ⟨b,5,none⟩=some (.int .i64 0)∧W.frozen? ⟨b,5,none⟩=false):=fun W hW=>by
        have h:=keep_row HB3.out hW
        unfold isC at h
        obtain ⟨c0,c1,c2,c3,c4,c5,cf⟩:=row6 h
        exact ⟨c5,cf 5⟩
      obtain ⟨c5,cf⟩:=HKS.out w3 (Below.refl _ _)
      obtain ⟨d5,df⟩:=HKS.out w3.drew (Below.refl _ _).drew
      clear hb3
      go_upto_region 16 with fail
      go_region_with (first | (go_at_call 300; refine (show Calls _ _ _ _ _ from HDG.out _ (by first | exact (Below.refl _ _).drew | exact Below.refl _ _)).mono ?_; rintro e w4 ⟨v4,rfl,hs4,hb4⟩; have HX4:Hid (Below w3.heap.size w3 w4):=((Below.refl _ _).drew.trans hb4); obtain ⟨e5,ef⟩:=HKS.out w4 HX4.out; clear hb4) | (go_at_call 81; refine (show Calls _ _ _ _ _ from HWG.out _ _ hs4).mono ?_; rintro e w5 ⟨rfl,hb5⟩; have HX5:Hid (Below w3.heap.size w3 w5):=HX4.out.trans (hb5.mono HX4.out.size); obtain ⟨f5,ff⟩:=HKS.out w5 HX5.out; clear hb5))
      all_goals (
        obtain ⟨W6,hW6⟩:∃ W6,W6=w5.setCell ⟨b,5,none⟩ (.int .i64 2):=⟨_,rfl⟩
        rw [show IntKind.i64.wrap 2=2 by decide,← hW6]
        have HB6:Hid (W6.heap[b]?=some (isC m n s (S5.strB (txt 2 [])) 0 2)):=by
          show _=_
          rw [hW6,heap_setCell_same _ _ _ _ _ _ (keep_row HB3.out HX5.out)]; rfl
        have HM6:Hid (Mod b w3 W6):=(Mod.of HX5.out).trans (Mod.only (by rw [hW6]; exact (Only.refl _ _).set _ _))
        have HI6:Hid (HoldsI W6 v3 [1,3]):=S5.HoldsI.own (l:=[1,3]) (own_keep HOR.out (fun k hk hlt=>HM6.out.oth k hlt (by have h1:=HBB.out; have h2:=HW.out.size; omega)))
        have HE6:Hid (W6.heap[bm]?=some (.map es cl)):=HM6.out.row HE3.out (by have h1:=HBB.out; have h2:=HBM.out; omega)
        have HMG:Hid _:=merged_nil g 0 v3 [1,3] (by simp) W6 HI6.out
        clear hW6 c5 cf hs4 e5 ef f5 ff
        go_wp2_with fail
        refine (show Calls _ _ _ _ _ from HMG.out).mono ?_
        rintro e w7 ⟨v7,rfl,hi7,hb7⟩
        have HB7:Hid (w7.heap[b]?=some (isC m n s (S5.strB (txt 2 [])) 0 2)):=keep_row HB6.out hb7
        have HHD:Hid _:=hold_small b m n s 0 2 [] [1,3] v7 (by simp) (by simp) (by decide) w7 HB7.out hi7
        have HM7:Hid (Mod b w3 w7):=HM6.out.trans (Mod.of hb7)
        clear hi7 hb7
        go_wp2_with fail
        refine (show Calls _ _ _ _ _ from HHD.out).mono ?_
        rintro e w8 ⟨rfl,hb8,hm8⟩
        have HB8:Hid (w8.heap[b]?=some (isC m n s (S5.strB (txt 2 [1,3])) 2 2)):=hb8
        have HM8:Hid (Mod b w w8):=(Mod.of (b:=b) HW3.out).trans (HM7.out.trans hm8)
        have hlm:=HEF.out w8 ((HM7.out.trans hm8).row HE3.out (by have h1:=HBB.out; have h2:=HBM.out; omega))
        clear hb8 hm8
        go_wp2
        go_ret2
        exact ⟨rfl,HB8.out,HM8.out⟩)
end Go.Proofs.YtiefeeoellagnaaGreatDoor.V
namespace Go.Proofs.YtiefeeoellagnaaGreatDoor.V
open Go.RowKit S5.IM
set_option linter.unusedVariables false
set_option linter.unusedSimpArgs false
def vC (k:Int) (body:Value):Obj:=.cells #[.int .i64 k,body] 72
def isB (b:Nat):Value:=.iface 65 (.pointer (some ⟨b,0,none⟩))
set_option maxHeartbeats 4000000 in
set_option maxRecDepth 20000 in
theorem New_set (t:TH) (ht:okT t=true) (w:World):Calls Tryz.prog 5 #[.int .i64 3,thV t] w fun e w'=>∃ bv bs,e=.returned (.tuple #[.pointer (some ⟨bv,0,none⟩),.int .i64 0])∧w.heap.size ≤ bs∧bs < bv∧w'.heap[bs]?=some (isC t.c t.d t.e (S5.strB (txt 2 [])) 0 0)∧w'.heap[bv]?=some (vC 3 (.iface 65 (.pointer (some ⟨bs,0,none⟩))))∧Below w.heap.size w w':=by
  have HCK:Hid (∀ W,Calls Tryz.prog 12 #[thV t] W fun e w'=>e=.returned (.int .i64 0)∧Below W.heap.size W w'):=fun W=>by have:=Check_any t W; rw [if_pos ht] at this; exact this
  have HNS:Hid (∀ W,Below w.heap.size w W → Calls Tryz.prog 14 #[thV t] W fun e w'=>∃ b,e=.returned (.pointer (some ⟨b,0,none⟩))∧W.heap.size ≤ b∧w'.heap[b]?=some (isC t.c t.d t.e (S5.strB (txt 2 [])) 0 0)∧Below W.heap.size W w'):=fun W hW=>newIntSet_any t W
  obtain ⟨OB,hOB⟩:∃ OB,OB=isC t.c t.d t.e (S5.strB (txt 2 [])) 0 0:=⟨_,rfl⟩
  rw [← hOB] at HNS ⊢
  obtain ⟨a,b,c,d,e,f,g,h,i⟩:=t
  unfold thV at *
  simp only [] at *
  obtain ⟨W1,hW1⟩:∃ W,W=w.alloc (.cells #[.int .i64 a,.int .i64 b,.int .i64 c,.int .i64 d,.int .i64 e,.int .i64 f,.int .i64 g,.int .i64 h,.int .i64 i] 23):=⟨_,rfl⟩
  obtain ⟨r,hr⟩:∃ r,w.heap.size=r:=⟨_,rfl⟩
  have HA:Hid (W1.heap[r]?=some (.cells #[.int .i64 a,.int .i64 b,.int .i64 c,.int .i64 d,.int .i64 e,.int .i64 f,.int .i64 g,.int .i64 h,.int .i64 i] 23)):=by rw [hW1,← hr]; exact one_alloc _ _
  have HB:Hid (Below w.heap.size w W1):=by rw [hW1]; exact (Below.refl _ _).alloc (Nat.le_refl _) _
  have HKS:Hid (∀ W,Below W1.heap.size W1 W → W.cell? ⟨r,0,none⟩=some (.int .i64 a)∧W.cell? ⟨r,1,none⟩=some (.int .i64 b)∧W.cell? ⟨r,2,none⟩=some (.int .i64 c)∧W.cell? ⟨r,3,none⟩=some (.int .i64 d)∧W.cell? ⟨r,4,none⟩=some (.int .i64 e)∧W.cell? ⟨r,5,none⟩=some (.int .i64 f)∧W.cell? ⟨r,6,none⟩=some (.int .i64 g)∧W.cell? ⟨r,7,none⟩=some (.int .i64 h)∧W.cell? ⟨r,8,none⟩=some (.int .i64 i)):=fun W hW=>by
    refine ⟨?_,?_,?_,?_,?_,?_,?_,?_,?_⟩ <;> rw [cell_of_row _ _ _ _ _ _ (keep_row HA.out hW)] <;> rfl
  obtain ⟨x0,x1,x2,x3,x4,x5,x6,x7,x8⟩:=HKS.out W1 (Below.refl _ _)
  have HRR:Hid (w.heap.size=r):=hr
  have hob:Hid _:=hOB
  clear ht hr hOB
  go_enter Tryz.func5,Tryz.ntmps5
  go_wp2_with fail
  rw [← hW1]
  refine (show Calls _ _ _ _ _ from HCK.out _).mono ?_
  rintro e w2 ⟨rfl,hb2⟩
  have HB2:Hid (Below w.heap.size w w2):=HB.out.trans (hb2.mono HB.out.size)
  rw [HRR.out]
  clear x0 x1 x2 x3 x4 x5 x6 x7 x8
  obtain ⟨x0,x1,x2,x3,x4,x5,x6,x7,x8⟩:=HKS.out w2 hb2
  clear hb2 hW1
  go_wp2_with fail
  refine (show Calls _ _ _ _ _ from HNS.out _ HB2.out).mono ?_
  rintro e w3 ⟨bs,rfl,hbs,hr3,hb3⟩
  have HB3:Hid (Below w.heap.size w w3):=HB2.out.trans (hb3.mono HB2.out.size)
  have HR3:Hid (w3.heap[bs]?=some OB):=hr3
  have HLT:Hid (bs < w3.heap.size):=row_lt hr3
  have HGE:Hid (w.heap.size ≤ bs):=Nat.le_trans HB2.out.size hbs
  clear hb3 hr3 hbs x0 x1 x2 x3 x4 x5 x6 x7 x8
  go_wp2
  go_returns
  exact ⟨w3.heap.size,bs,rfl,HGE.out,HLT.out,keep_row HR3.out ((Below.refl _ _).alloc (Nat.le_refl _) _),one_alloc _ _,HB3.out.alloc HB3.out.size _⟩
end Go.Proofs.YtiefeeoellagnaaGreatDoor.V
namespace Go.Proofs.YtiefeeoellagnaaGreatDoor.V
open Go.RowKit S5.IM
open S6 (Laid itoaB numT)
set_option linter.unusedVariables false
set_option linter.unusedSimpArgs false
theorem ta_set (v:Value) (xT:TypeId) (w:World):(Instr.typeAssert (.iface 65 v) xT 145 true).run Tryz.prog w=.ok (.tuple #[.iface 65 v,.bool true]) w:=run_typeAssert_hasB Tryz.underlying145 (by kernel_rfl) v xT w
set_option maxRecDepth 20000 in
theorem asSet_ok (bv bs:Nat) (w:World) (h:w.heap[bv]?=some (vC 3 (isB bs))):Calls Tryz.prog 67 #[.pointer (some ⟨bv,0,none⟩)] w fun e w'=>e=.returned (.tuple #[isB bs,.int .i64 0])∧w'=w:=by
  unfold vC isB at *
  obtain ⟨c0,c1,cf⟩:=prow2 h
  clear h
  have hta:=fun W=>ta_set (.pointer (some ⟨bs,0,none⟩)) 61 W
  go_enter Tryz.func67,Tryz.ntmps67
  go_wp2
  go_returns
  exact ⟨rfl,rfl⟩
set_option maxRecDepth 20000 in
theorem count_is (b:Nat) (m n s z x:Int) (p:ByteArray) (w:World) (hb:w.heap[b]?=some (isC m n s p z x)):Calls Tryz.prog 488 #[.pointer (some ⟨b,0,none⟩)] w fun e w'=>e=.returned (.int .i64 z)∧w'=w:=by
  unfold isC at hb
  obtain ⟨c0,c1,c2,c3,c4,c5,cf⟩:=row6 hb
  clear hb
  go_enter Tryz.func488,Tryz.ntmps488
  go_wp2
  go_returns
  exact ⟨rfl,rfl⟩
set_option maxRecDepth 20000 in
theorem tooMany_set (b:Nat) (m n s z x:Int) (p:ByteArray) (v:Value) (vs:List ByteArray) (w:World) (hv:SRow w v vs) (hz:0 ≤ z) (hl:z + (vs.length:Int) ≤ 1048576) (hb:w.heap[b]?=some (isC m n s p z x)):Calls Tryz.prog 69 #[isB b,v] w fun e w'=>e=.returned (.bool false)∧w'=w:=by
  obtain ⟨q,c,rfl⟩:=hv.form
  have HC:Hid _:=count_is b m n s z x p w hb
  clear hv
  unfold isB
  go_enter Tryz.func69,Tryz.ntmps69
  go_wp2_with fail
  refine (show Calls _ _ _ _ _ from HC.out).mono ?_
  rintro e w1 ⟨rfl,rfl⟩
  go_wp2
  go_returns
  exact ⟨rfl,rfl⟩
set_option maxHeartbeats 1000000 in
set_option maxRecDepth 20000 in
theorem join_three (bv bs:Nat) (m n s:Int) (hm:3 ≤ m) (v:Value) (w:World) (hL:Laid w) (hbv:w.heap[bv]?=some (vC 3 (isB bs))) (hbs:w.heap[bs]?=some (isC m n s (S5.strB (txt 2 [])) 0 0)) (hv:SRow w v three) :
    Calls Tryz.prog 70 #[.pointer (some ⟨bv,0,none⟩),v] w fun e w'=>e=.returned (.int .i64 2)∧w'.heap[bs]?=some (isC m n s (S5.strB (txt 2 [1,3])) 2 2)∧Mod bs w w':=by
  have HAS:Hid _:=asSet_ok bv bs w hbv
  have HAD:Hid _:=add_three bs m n s hm v w hL hbs hv
  obtain ⟨q,c,rfl⟩:=hv.form
  have h3:three.length=3:=rfl
  rw [h3] at *
  clear hL hbv hbs hv
  go_enter Tryz.func70,Tryz.ntmps70
  go_wp2_with fail
  refine (show Calls _ _ _ _ _ from HAS.out).mono ?_
  rintro e w1 ⟨rfl,rfl⟩
  unfold isB
  go_wp2_with fail
  refine (show Calls _ _ _ _ _ from HAD.out).mono ?_
  rintro e w2 ⟨rfl,hb,hm2⟩
  have H2:Hid (w2.heap[bs]?=some (isC m n s (S5.strB (txt 2 [1,3])) 2 2)∧Mod bs w1 w2):=⟨hb,hm2⟩
  clear hb hm2
  go_wp2
  go_ret
  exact ⟨rfl,H2.out⟩
set_option maxHeartbeats 1000000 in
set_option maxRecDepth 20000 in
theorem Add_three (bv bs:Nat) (m n s:Int) (hm:3 ≤ m) (v:Value) (w:World) (hL:Laid w) (hbv:w.heap[bv]?=some (vC 3 (isB bs))) (hbs:w.heap[bs]?=some (isC m n s (S5.strB (txt 2 [])) 0 0)) (hv:SRow w v three) :
    Calls Tryz.prog 20 #[.pointer (some ⟨bv,0,none⟩),v] w fun e w'=>e=.returned (.tuple #[.int .i64 2,.int .i64 0])∧w'.heap[bs]?=some (isC m n s (S5.strB (txt 2 [1,3])) 2 2)∧Mod bs w w':=by
  have HAS:Hid _:=asSet_ok bv bs w hbv
  have HAL:Hid (Calls Tryz.prog 68 #[v] w fun e w'=>e=.returned (.bool false)∧Below w.heap.size w w'):=anyLong_any v three (by decide) w hv
  have HTM:Hid (∀ W,Below w.heap.size w W → Calls Tryz.prog 69 #[isB bs,v] W fun e w'=>e=.returned (.bool false)∧w'=W):=fun W hW=>tooMany_set bs m n s 0 0 _ v three W (hv.on hW) (by omega) (by decide) (keep_row hbs hW)
  have HJN:Hid (∀ W,Below w.heap.size w W → _):=fun W hW=>join_three bv bs m n s hm v W (hL.on hW) (keep_row hbv hW) (keep_row hbs hW) (hv.on hW)
  obtain ⟨q,c,rfl⟩:=hv.form
  have h3:three.length=3:=rfl
  rw [h3] at *
  clear hL hbv hbs hv
  go_enter Tryz.func20,Tryz.ntmps20
  go_wp2_with fail
  refine (show Calls _ _ _ _ _ from HAS.out).mono ?_
  rintro e w1 ⟨rfl,rfl⟩
  go_wp2_with fail
  refine (show Calls _ _ _ _ _ from HAL.out).mono ?_
  rintro e w2 ⟨rfl,hb2⟩
  have HB2:Hid _:=hb2
  clear hb2
  go_wp2_with fail
  refine (show Calls _ _ _ _ _ from HTM.out _ HB2.out).mono ?_
  rintro e w3 ⟨rfl,rfl⟩
  go_wp2_with fail
  refine (show Calls _ _ _ _ _ from HJN.out _ HB2.out).mono ?_
  rintro e w4 ⟨rfl,hb,hm4⟩
  have H2:Hid (w4.heap[bs]?=some (isC m n s (S5.strB (txt 2 [1,3])) 2 2)∧Mod bs w1 w4):=⟨hb,(Mod.of HB2.out).trans hm4⟩
  clear hb hm4
  go_wp2
  go_ret2
  exact ⟨rfl,H2.out⟩
theorem set_13:IsSet (S5.strB (txt 2 [1,3])).data.toList 2 [1,3]:=⟨S5.strB_list _,Or.inl rfl,by simp,by simp [Rise],by intro n hn; simp at hn; rcases hn with rfl | rfl <;> (unfold fits; decide)⟩
set_option maxHeartbeats 1000000 in
set_option maxRecDepth 20000 in
theorem has_three (b:Nat) (m n s z x:Int) (w:World) (hL:Laid w) (hb:w.heap[b]?=some (isC m n s (S5.strB (txt 2 [1,3])) z x)):Calls Tryz.prog 491 #[.pointer (some ⟨b,0,none⟩),.string ⟨#[51]⟩] w fun e w'=>e=.returned (.bool true)∧Below w.heap.size w w':=by
  have HN:Hid _:=S6.number_any ⟨#[51]⟩ (by decide) w hL
  rw [S6.numT_some (show Vi.numberOf (⟨#[51]⟩:ByteArray).data.toList=some 3 by show Vi.numberOf [51]=some 3; decide +kernel)] at HN
  have HH:Hid (∀ W,Calls Tryz.prog 501 #[.string (S5.strB (txt 2 [1,3])),.int .i64 3] W fun e w'=>e=.returned (.bool true)∧Below W.heap.size W w'):=fun W=>S5.has_set _ 2 [1,3] set_13 3 W
  generalize S5.strB (txt 2 [1,3])=P at *
  have HB:Hid (w.heap[b]?=some (isC m n s P z x)):=hb
  clear hb hL
  go_enter Tryz.func491,Tryz.ntmps491
  go_wp2_with fail
  refine (show Calls _ _ _ _ _ from HN.out).mono ?_
  rintro e w1 ⟨rfl,hb1⟩
  have h1:=keep_row HB.out hb1
  unfold isC at h1
  obtain ⟨c0,c1,c2,c3,c4,c5,cf⟩:=row6 h1
  have HB1:Hid _:=hb1
  clear h1 hb1
  go_wp2_with fail
  refine (show Calls _ _ _ _ _ from HH.out _).mono ?_
  rintro e w2 ⟨rfl,hb2⟩
  have HB2:Hid (Below w.heap.size w w2):=HB1.out.trans (hb2.mono HB1.out.size)
  clear hb2
  go_wp2
  go_ret
  exact ⟨rfl,HB2.out⟩
set_option maxHeartbeats 1000000 in
set_option maxRecDepth 20000 in
theorem Has_three (bv bs:Nat) (m n s z x:Int) (w:World) (hL:Laid w) (hbv:w.heap[bv]?=some (vC 3 (isB bs))) (hb:w.heap[bs]?=some (isC m n s (S5.strB (txt 2 [1,3])) z x)):Calls Tryz.prog 21 #[.pointer (some ⟨bv,0,none⟩),.string ⟨#[51]⟩] w fun e w'=>e=.returned (.tuple #[.bool true,.int .i64 0])∧Below w.heap.size w w':=by
  have HAS:Hid _:=asSet_ok bv bs w hbv
  have HH:Hid _:=has_three bs m n s z x w hL hb
  clear hb hL hbv
  go_enter Tryz.func21,Tryz.ntmps21
  go_wp2_with fail
  refine (show Calls _ _ _ _ _ from HAS.out).mono ?_
  rintro e w1 ⟨rfl,rfl⟩
  unfold isB
  go_wp2_with fail
  refine (show Calls _ _ _ _ _ from HH.out).mono ?_
  rintro e w2 ⟨rfl,hb2⟩
  have HB2:Hid _:=hb2
  clear hb2
  go_wp2
  go_ret2
  exact ⟨rfl,HB2.out⟩
set_option maxRecDepth 20000 in
theorem Enc_set (bv bs:Nat) (w:World) (hbv:w.heap[bv]?=some (vC 3 (isB bs))):Calls Tryz.prog 24 #[.pointer (some ⟨bv,0,none⟩)] w fun e w'=>e=.returned (.string ⟨#[105,110,116,115,101,116]⟩)∧w'=w:=by
  unfold vC isB at hbv
  obtain ⟨c0,c1,cf⟩:=prow2 hbv
  clear hbv
  go_enter Tryz.func24,Tryz.ntmps24
  go_wp2
  go_returns
  exact ⟨rfl,rfl⟩
set_option maxRecDepth 20000 in
theorem Len_set (bv bs:Nat) (m n s z x:Int) (p:ByteArray) (w:World) (hbv:w.heap[bv]?=some (vC 3 (isB bs))) (hb:w.heap[bs]?=some (isC m n s p z x)):Calls Tryz.prog 25 #[.pointer (some ⟨bv,0,none⟩)] w fun e w'=>e=.returned (.int .i64 z)∧w'=w:=by
  have HC:Hid _:=count_is bs m n s z x p w hb
  unfold vC isB at hbv
  obtain ⟨c0,c1,cf⟩:=prow2 hbv
  clear hbv hb
  go_enter Tryz.func25,Tryz.ntmps25
  go_wp2_with fail
  refine (show Calls _ _ _ _ _ from HC.out).mono ?_
  rintro e w1 ⟨rfl,rfl⟩
  go_wp2
  go_returns
  exact ⟨rfl,rfl⟩
end Go.Proofs.YtiefeeoellagnaaGreatDoor.V
