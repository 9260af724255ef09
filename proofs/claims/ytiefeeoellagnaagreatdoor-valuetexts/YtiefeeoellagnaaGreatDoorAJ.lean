import Derived.Test.YtiefeeoellagnaaGreatDoorAG
import Derived.Test.YtiefeeoellagnaaGreatDoorAI
import Derived.Laws.AppendOwnNone
namespace Go.Proofs.YtiefeeoellagnaaGreatDoor.S6
open Go.RowKit
set_option linter.unusedVariables false
def SRow (w:World) (v:Value) (vs:List ByteArray):Prop:=
  (vs=[]∧∃ p c,v=.slice p 0 c) ∨ (∃ g o c,v=.slice (some ⟨g,o,none⟩) vs.length c∧∀ j (h:j < vs.length),w.cell? ⟨g,o + j,none⟩=some (.string vs[j]))
theorem SRow.on {w w':World} {v:Value} {vs:List ByteArray} (h:SRow w v vs) (hb:Below w.heap.size w w'):SRow w' v vs:=by
  rcases h with h | ⟨g,o,c,h1,h2⟩
  · exact Or.inl h
  · exact Or.inr ⟨g,o,c,h1,fun j hj=>cell_on (h2 j hj) hb⟩
theorem SRow.form {w:World} {v:Value} {vs:List ByteArray} (h:SRow w v vs):∃ p c,v=.slice p vs.length c:=by
  rcases h with ⟨rfl,p,c,h⟩ | ⟨g,o,c,h1,_⟩
  · exact ⟨p,c,h⟩
  · exact ⟨_,_,h1⟩
def sizeV (v:ByteArray):Nat:=if 524288 < v.size then 0 else LM.esz (LM.itemOf v.data.toList)
set_option maxHeartbeats 1000000 in
set_option maxRecDepth 100000 in
theorem Size_any (v:ByteArray) (hv:v.size ≤ 281474976710656) (w:World) (hw:Lay w) :
    Calls Tryz.prog 294 #[.string v] w fun e w'=>e=.returned (.int .i64 (sizeV v:Nat))∧Below w.heap.size w w':=by
  have HW:Hid (Lay w):=hw
  clear hw
  by_cases h:524288 < v.size
  · have hd:decide ((524288:Int) < (v.size:Int))=true:=dec_t (by omega)
    have HS:Hid (sizeV v=0):=by show _=_; unfold sizeV; rw [if_pos h]
    have HV:Hid _:=hv
    clear hv h
    go_enter Tryz.func294,Tryz.ntmps294
    go_wp2
    go_ret
    exact ⟨by rw [HS.out]; rfl,Below.refl _ _⟩
  · have hd:decide ((524288:Int) < (v.size:Int))=false:=dec_f (by omega)
    have hwf:=LM.itemOf_wf v.data.toList (by rw [list_len]; omega)
    have h1:=LM.dsize_pos (LM.itemOf v.data.toList)
    have h2:=LM.dsize_le _ hwf
    have h3:=LM.bsz_le3 (LM.dsize (LM.itemOf v.data.toList)) (by omega)
    have HS:Hid (sizeV v=LM.dsize (LM.itemOf v.data.toList) + LM.bsz (LM.dsize (LM.itemOf v.data.toList))):=by show _=_; unfold sizeV LM.esz; rw [if_neg h]
    have HIT:Hid (∀ W,Laid W → Calls Tryz.prog 298 #[.string v] W fun e w'=>e=.returned (.agg #[.string (strB (LM.itemOf v.data.toList).txt),.int .i64 (LM.itemOf v.data.toList).num,.bool (LM.itemOf v.data.toList).isN])∧Below W.heap.size W w'):=fun W hW=>itemOf_any v hv W hW
    have HSZ:Hid (∀ W,Wid W → Calls Tryz.prog 342 #[.agg #[.string (strB (LM.itemOf v.data.toList).txt),.int .i64 (LM.itemOf v.data.toList).num,.bool (LM.itemOf v.data.toList).isN]] W fun e w'=>e=.returned (.int .i64 (LM.dsize (LM.itemOf v.data.toList):Nat))∧Below W.heap.size W w'):=fun W hW=>size_any _ 524288 (by
      rcases hwf with ⟨h1,h2,h3⟩ | ⟨h1,h2,h3,h4⟩
      · exact Or.inl ⟨h1,h2,h3⟩
      · exact Or.inr ⟨h1,h2,h4⟩) (by omega) W hW
    generalize LM.dsize (LM.itemOf v.data.toList)=D at *
    generalize strB (LM.itemOf v.data.toList).txt=T at *
    generalize (LM.itemOf v.data.toList).num=m at *
    generalize (LM.itemOf v.data.toList).isN=q at *
    have HV:Hid _:=hv
    clear hv h hwf
    go_enter Tryz.func294,Tryz.ntmps294
    go_wp2_with fail
    refine (show Calls _ _ _ _ _ from HIT.out _ HW.out.laid).mono ?_
    rintro e w1 ⟨rfl,hb1⟩
    have HB1:Hid (Below w.heap.size w w1):=hb1
    clear hb1
    go_wp2_with fail
    refine (show Calls _ _ _ _ _ from HSZ.out _ (HW.out.wid.on HB1.out)).mono ?_
    rintro e w2 ⟨rfl,hb2⟩
    have HB2:Hid (Below w.heap.size w w2):=bel_to HB1.out hb2 (Nat.le_refl _)
    clear hb2
    go_wp2_with fail
    refine (bsz_any D h1 (by omega) _).mono ?_
    rintro e w3 ⟨rfl,rfl⟩
    go_wp2
    go_ret
    exact ⟨by rw [HS.out]; exact ret_int (by omega),HB2.out⟩
end Go.Proofs.YtiefeeoellagnaaGreatDoor.S6
namespace Go.Proofs.YtiefeeoellagnaaGreatDoor.S6
open Go.RowKit
set_option linter.unusedVariables false
def newI (l:List LM.Item) (i n:Nat) (vs:List ByteArray):List LM.Item:=l.take i ++ (vs.map (fun v=>LM.itemOf v.data.toList) ++ l.drop (i + n))
def fitI (l:List LM.Item) (i n:Nat) (vs:List ByteArray):Prop:=(∀ v ∈ vs,v.size ≤ 524288)∧l.length - n + vs.length ≤ 1048576∧7 + LM.bsum (newI l i n vs) ≤ 1073741824
def sumV (vs:List ByteArray):Nat:=(vs.map sizeV).foldr (· + ·) 0
theorem sumV_snoc (vs:List ByteArray) (j:Nat) (h:j < vs.length):sumV (vs.take (j + 1))=sumV (vs.take j) + sizeV vs[j]:=by
  have:∀ (a b:List ByteArray),sumV (a ++ b)=sumV a + sumV b:=by
    intro a b; induction a with
    | nil=>simp [sumV]
    | cons x a ih=>simp only [sumV,List.cons_append,List.map_cons,List.foldr_cons] at ih ⊢; omega
  rw [List.take_succ_eq_append_getElem h,this]; simp [sumV]
theorem sizeV_le (v:ByteArray):sizeV v ≤ 524296:=by
  unfold sizeV; split
  · omega
  · exact LM.esz_le _ (LM.itemOf_wf _ (by rw [list_len]; omega))
theorem sumV_le (vs:List ByteArray):sumV vs ≤ 524296 * vs.length:=by
  induction vs with
  | nil=>simp [sumV]
  | cons x a ih=>have:=sizeV_le x; simp only [sumV,List.map_cons,List.foldr_cons,List.length_cons] at ih ⊢; omega
theorem sumV_take (vs:List ByteArray) (j:Nat):sumV (vs.take j) ≤ sumV vs:=by
  induction vs generalizing j with
  | nil=>simp
  | cons x a ih =>
    cases j with
    | zero=>simp [sumV]
    | succ j=>have:=ih j; simp only [sumV,List.take_succ_cons,List.map_cons,List.foldr_cons] at this ⊢; omega
theorem bsum_items (vs:List ByteArray) (h:∀ v ∈ vs,v.size ≤ 524288):LM.bsum (vs.map (fun v=>LM.itemOf v.data.toList))=sumV vs:=by
  induction vs with
  | nil=>rfl
  | cons x a ih =>
    have hx:=h x (by simp)
    have ih:=ih (fun v hv=>h v (by simp [hv]))
    simp only [List.map_cons,LM.bsum_cons,ih,sumV,List.foldr_cons,sizeV]
    rw [if_neg (by omega)]
def outS (P:Prop) [Decidable P] (L:List UInt8):Value:=if P then .tuple #[.string (strB L),.int .i64 0] else .tuple #[.string ⟨#[]⟩,.int .i64 2]
open Classical in
set_option maxHeartbeats 4000000 in
set_option maxRecDepth 100000 in
theorem spl_any (l:List LM.Item) (HBG:BegC l) (hl:∀ it ∈ l,LM.Wf it) (hs:LM.bsum l ≤ 1073741824) (hlen:l.length ≤ 1048576) (i n:Nat) (hin:i + n ≤ l.length) (v:Value) (vs:List ByteArray) (hvl:vs.length ≤ 70368744177664) (hvm:∀ x ∈ vs,x.size ≤ 281474976710656) (w:World) (hv:SRow w v vs) (hw:Lay w) :
    Calls Tryz.prog 235 #[.agg #[.string (strB (LM.bodyOf l)),.int .i64 (l.length:Int)],.int .i64 i,.int .i64 n,v] w fun e w'=>e=.returned (outS (fitI l i n vs) (LM.build (newI l i n vs)))∧Below w.heap.size w w':=by
  have HW:Hid (Lay w):=hw
  have HV:Hid (SRow w v vs):=hv
  obtain ⟨P,c,rfl⟩:=hv.form
  obtain ⟨fB,hfB⟩:∃ fB:Int → Int,fB=fun a=>((LM.bsum (l.take a.toNat):Nat):Int):=⟨_,rfl⟩
  have HCC:Hid (∀ a:Int,0 ≤ a → a ≤ (l.length:Int) → ∀ W,Lay W → Calls Tryz.prog 293 #[.agg #[.string (strB (LM.bodyOf l)),.int .i64 (l.length:Int)],.int .i64 a] W fun e w'=>e=.returned (.int .i64 (fB a))∧Below W.heap.size W w'):=fun a h0 h1 W hW=>by
    obtain ⟨k,rfl⟩:∃ k:Nat,a=(k:Int):=⟨a.toNat,by omega⟩
    have:=HBG k (by omega) W hW
    rw [hfB]; simpa using this
  clear HBG
  have hBs:(strB (LM.bodyOf l)).size=LM.bsum l:=by rw [strB_size,LM.bodyOf_len]
  have HBL:Hid ((strB (LM.bodyOf l)).data.toList=LM.bodyOf l):=strB_list _
  have hf1:=LM.bsum_take_le l i
  have hf2:=LM.bsum_take_le l (i + n)
  have hf3:LM.bsum (l.take i) ≤ LM.bsum (l.take (i + n)):=by
    have:=LM.bsum_take_le (l.take (i + n)) i
    rwa [List.take_take,show min i (i + n)=i by omega] at this
  have hf4:LM.bsum (l.take (i + n)) + LM.bsum (l.drop (i + n))=LM.bsum l:=by rw [← LM.bsum_app,List.take_append_drop]
  have HX1:Hid ((LM.bodyOf l).take (LM.bsum (l.take i))=LM.bodyOf (l.take i)):=LM.body_take l i
  have HXB:Hid ((LM.bodyOf l).drop (LM.bsum (l.take (i + n)))=LM.bodyOf (l.drop (i + n))):=LM.body_drop l (i + n)
  have HNI:Hid (∀ (h:∀ x ∈ vs,x.size ≤ 524288),LM.bsum (newI l i n vs)=LM.bsum (l.take i) + (sumV vs + LM.bsum (l.drop (i + n)))):=fun h=>by
    unfold newI; rw [LM.bsum_app,LM.bsum_app,bsum_items vs h]
  have HBI:Hid (LM.bodyOf (newI l i n vs)=LM.bodyOf (l.take i) ++ (LM.bodyOf (vs.map (fun v=>LM.itemOf v.data.toList)) ++ LM.bodyOf (l.drop (i + n)))):=by
    show _=_; unfold newI; rw [LM.bodyOf_app,LM.bodyOf_app]
  have HLN:Hid ((newI l i n vs).length=l.length - n + vs.length):=by
    show _=_; unfold newI; simp only [List.length_append,List.length_take,List.length_drop,List.length_map]; omega
  generalize strB (LM.bodyOf l)=Bo at *
  have HF1:Hid (fB (i:Int)=((LM.bsum (l.take i):Nat):Int)):=by show _=_; rw [hfB]; simp
  have HF2:Hid (fB ((i + n:Nat):Int)=((LM.bsum (l.take (i + n)):Nat):Int)):=by show _=_; rw [hfB]; simp only [Int.toNat_natCast]
  clear hfB
  generalize hF:LM.bsum (l.take i)=F at *
  generalize hT:LM.bsum (l.take (i + n))=T at *
  generalize hR:LM.bsum (l.drop (i + n))=R at *
  have HVM:Hid _:=hvm
  clear hw hv hvm
  have HB0:Hid (Below w.heap.size w (w.alloc (.cells #[.string Bo,.int .i64 (l.length:Int)] 349))):=(Below.refl _ w).alloc (Nat.le_refl _) _
  have HR0:Hid ((w.alloc (.cells #[.string Bo,.int .i64 (l.length:Int)] 349)).heap[w.heap.size]?=some (.cells #[.string Bo,.int .i64 (l.length:Int)] 349)):=one_alloc w _
  obtain ⟨W1,hW1⟩:∃ W1,W1=w.alloc (.cells #[.string Bo,.int .i64 (l.length:Int)] 349):=⟨_,rfl⟩
  rw [← hW1] at HB0 HR0
  obtain ⟨d0,d1,df⟩:=prow2 HR0.out
  obtain ⟨a2,ha2⟩:∃ a2:Int,((i + n:Nat):Int)=a2:=⟨_,rfl⟩
  have hnl:(n:Int) ≤ (l.length:Int):=by omega
  have hwin:Hid (IntKind.i64.wrap ((i:Int) + (n:Int))=a2):=by show _=_; rw [← ha2,IntKind.wrap_i64]; omega
  have hwin2:Hid (wrap64 ((i:Int) + (n:Int))=a2):=by show _=_; rw [← ha2]; unfold wrap64; omega
  have HIN:Hid (i + n ≤ l.length):=hin
  rw [ha2] at HF2
  have h2a:0 ≤ a2:=by omega
  have h2b:a2 ≤ (l.length:Int):=by omega
  have h1a:0 ≤ (i:Int):=by omega
  have h1b:(i:Int) ≤ (l.length:Int):=by omega
  obtain ⟨a1,ha1⟩:∃ a1:Int,(i:Int)=a1:=⟨_,rfl⟩
  rw [ha1] at HF1 h1a h1b
  obtain ⟨b1,hb1⟩:∃ b1:Int,(n:Int)=b1:=⟨_,rfl⟩
  have HAA:Hid _:=ha1
  have HBB1:Hid _:=hb1
  rw [ha1,hb1] at hwin hwin2
  rw [hb1] at hnl
  rw [ha1,hb1]
  clear ha1 hb1 ha2 hin
  have HLD:Hid (Lay W1.drew):=(HW.out.on HB0.out).on (below_dn (Below.refl _ W1) 1)
  go_enter Tryz.func235,Tryz.ntmps235
  go_wp2_with fail
  rw [← hW1]
  clear hW1
  go_cut [10,11] from 19 to 26 (fun x y wx=>x=.int .i64 (fB a1)∧y=.int .i64 (fB a2)∧Below w.heap.size w wx∧wx.heap[w.heap.size]?=some (.cells #[.string Bo,.int .i64 (l.length:Int)] 349))
  case first =>
    have hw1:=hwin.out
    have hw2:=hwin2.out
    have hlay:=HLD.out
    have hrow:W1.drew.heap[w.heap.size]?=some (.cells #[.string Bo,.int .i64 (l.length:Int)] 349):=HR0.out
    have hcur:Below w.heap.size w W1.drew:=below_dn HB0.out 1
    go_region_with (go_at_call 293; refine (show Calls _ _ _ _ _ from HCC.out _ (by assumption) (by assumption) _ hlay).mono ?_; rintro e w2 ⟨rfl,hbx⟩; have hlay:=hlay.on hbx; have hrow:=keep_row hrow hbx; have hcur:=bel_to hcur hbx (Nat.le_refl _); obtain ⟨k0,k1,kf⟩:=prow2 hrow; clear hbx)
    all_goals (go_wp2_with fail; go_meet; exact ⟨rfl,rfl,hcur,hrow⟩)
  case rest =>
  obtain ⟨rfl,rfl,hbc,hrc⟩:=hcut
  rw [HF1.out,HF2.out]
  have hbn:=HBB1.out
  have HBC:Hid (Below w.heap.size w wc):=hbc
  have HRC:Hid _:=hrc
  obtain ⟨p0,p1,pf⟩:=prow2 HRC.out
  clear hbc hrc d0 d1 df hwin hwin2 HAA HF1 HF2 HCC h1a h1b h2a h2b
  subst hbn
  have HVC:Hid (SRow wc (.slice P vs.length c) vs):=HV.out.on HBC.out
  have HLC:Hid (Lay wc):=HW.out.on HBC.out
  have HFIT:Hid (fitI l i n vs ↔ ((∀ x ∈ vs,x.size ≤ 524288)∧l.length - n + vs.length ≤ 1048576∧7 + F + (sumV vs + R) ≤ 1073741824)):=by
    show _ ↔ _
    unfold fitI
    constructor
    · rintro ⟨h1,h2,h3⟩; exact ⟨h1,h2,by rw [HNI.out h1] at h3; omega⟩
    · rintro ⟨h1,h2,h3⟩; exact ⟨h1,h2,by rw [HNI.out h1]; omega⟩
  have hS0:(7:Int) + F + LM.bsum l - T=((7 + F + R:Nat):Int):=by omega
  obtain ⟨S0,hS0'⟩:∃ S0:Nat,S0=7 + F + R:=⟨_,rfl⟩
  rw [← hS0'] at hS0
  have HS0:Hid _:=hS0'
  have hS0b:S0 ≤ 1073741831:=by omega
  have hcnt:(l.length:Int) - n + vs.length=((l.length - n + vs.length:Nat):Int):=by omega
  obtain ⟨C0,hC0'⟩:∃ C0:Nat,C0=l.length - n + vs.length:=⟨_,rfl⟩
  rw [← hC0'] at hcnt
  have HC0:Hid _:=hC0'
  have hvC:vs.length ≤ C0:=by omega
  have hC0b:C0 ≤ 70368745226240:=by omega
  clear hS0' hC0'
  go_wp2
  go_loopw [13,44] (fun cx cj wr=>∃ (j:Nat) (x:Int),j ≤ vs.length∧cj=.int .i64 (j:Int)∧cx=.int .i64 x∧(j ≤ 1048576 → x=((S0 + sumV (vs.take j):Nat):Int))∧(∀ y ∈ vs.take j,y.size ≤ 524288)∧Below w.heap.size w wr∧wr.heap[w.heap.size]?=some (.cells #[.string Bo,.int .i64 (l.length:Int)] 349)) (fun _ cj _=>vs.length - (intOf cj).toNat)
  case atStart=>exact ⟨0,(S0:Int),by omega,rfl,rfl,fun _=>by simp [sumV],by simp,HBC.out,HRC.out⟩
  case round =>
    obtain ⟨j,x,hj,rfl,rfl,hx,hall,hb,hr⟩:=hrel
    have HB:Hid (Below w.heap.size w wr):=hb
    have HR:Hid _:=hr
    have HX:Hid _:=hx
    have HALL:Hid _:=hall
    clear hb hr hx hall
    by_cases hlt:j < vs.length
    · obtain ⟨X,hX⟩:∃ X,vs[j]=X:=⟨_,rfl⟩
      have hXm:X.size ≤ 281474976710656:=by rw [← hX]; exact HVM.out _ (List.getElem_mem hlt)
      obtain ⟨g,o,hPe,hcell⟩:∃ g o,P=some ⟨g,o,none⟩∧wr.cell? ⟨g,o + j,none⟩=some (.string X):=by
        rcases HV.out.on HB.out with ⟨he,_⟩ | ⟨g,o,c',h1,h2⟩
        · rw [he] at hlt; simp at hlt
        · injection h1 with h1 _ _
          exact ⟨g,o,h1,by rw [← hX]; exact h2 j hlt⟩
      subst hPe
      have HSZ:Hid (∀ W,Lay W → Calls Tryz.prog 294 #[.string X] W fun e w'=>e=.returned (.int .i64 (sizeV X:Nat))∧Below W.heap.size W w'):=fun W hW=>Size_any X hXm W hW
      have hz:=sizeV_le X
      have HTK:Hid (vs.take (j + 1)=vs.take j ++ [X]):=by show _=_; rw [List.take_succ_eq_append_getElem hlt,hX]
      have HSS:Hid (sumV (vs.take (j + 1))=sumV (vs.take j) + sizeV X):=by show _=_; rw [sumV_snoc vs j hlt,hX]
      have HSL:Hid (sumV (vs.take j) ≤ 524296 * j):=by
        show _ ≤ _; have:=sumV_le (vs.take j); rw [List.length_take] at this; exact Nat.le_trans this (Nat.mul_le_mul_left _ (by omega))
      have HMEM:Hid (X ∈ vs):=by rw [← hX]; exact List.getElem_mem hlt
      by_cases hbig:524288 < X.size
      · have hdb:decide ((524288:Int) < (X.size:Int))=true:=dec_t (by omega)
        have HNF:Hid (¬ fitI l i n vs):=fun h=>by have:=(HFIT.out.1 h).1 X HMEM.out; omega
        clear hbig hXm hX
        go_wp2
        go_ret2
        refine ⟨?_,HB.out⟩
        unfold outS; rw [if_neg HNF.out]; rfl
      · have hdb:decide ((524288:Int) < (X.size:Int))=false:=dec_f (by omega)
        have HSM:Hid (X.size ≤ 524288):=by show _ ≤ _; omega
        have HLR:Hid (Lay wr):=HW.out.on HB.out
        clear hbig hXm hX
        generalize sizeV X=z at *
        go_wp2_with fail
        refine (show Calls _ _ _ _ _ from HSZ.out _ HLR.out).mono ?_
        rintro e w5 ⟨rfl,hb5⟩
        have HB5:Hid (Below w.heap.size w w5):=bel_to HB.out hb5 (Nat.le_refl _)
        have HR5:Hid _:=keep_row HR.out hb5
        clear hb5
        go_wp2
        go_roundw
        case rel =>
          refine ⟨j + 1,_,hlt,rfl,rfl,fun hj1=>?_,?_,HB5.out,HR5.out⟩
          · have h1:=HX.out (by omega)
            have h2:=HSS.out
            have h3:=HSL.out
            rw [h1,h2]
            unfold wrap64
            omega
          · rw [HTK.out]; intro y hy
            rcases List.mem_append.1 hy with hy | hy
            · exact HALL.out y hy
            · rw [List.mem_singleton.1 hy]; exact HSM.out
        case measure=>simp [intOf]; omega
    · have he:j=vs.length:=by omega
      subst he
      have HALL2:Hid (∀ y ∈ vs,y.size ≤ 524288):=by
        have:=HALL.out; rwa [List.take_length] at this
      have HX2:Hid (vs.length ≤ 1048576 → x=((S0 + sumV vs:Nat):Int)):=by
        have:=HX.out; rwa [List.take_length] at this
      clear HALL HX
      by_cases hc20:C0 ≤ 1048576
      · have hd20:decide ((1048576:Int) < (C0:Int))=false:=dec_f (by omega)
        have hxx:=HX2.out (by omega)
        obtain ⟨S1,hS1⟩:∃ S1:Nat,S1=S0 + sumV vs:=⟨_,rfl⟩
        rw [← hS1] at hxx
        have HS1:Hid _:=hS1
        clear hS1
        subst hxx
        by_cases hs30:S1 ≤ 1073741824
        · have hd30:decide ((1073741824:Int) < (S1:Int))=false:=dec_f (by omega)
          have HFT:Hid (fitI l i n vs):=HFIT.out.2 ⟨HALL2.out,by have:=HC0.out; omega,by have:=HS0.out; have:=HS1.out; omega⟩
          have HC20:Hid _:=hc20
          have HS30:Hid _:=hs30
          clear hc20 hs30
          go_wp2_with fail
          have HNM:Hid (∀ W,Calls Tryz.prog 295 #[.int .i64 S1,.int .i64 C0] W fun e w'=>e=.returned (.pointer (some ⟨W.heap.size,0,none⟩))∧(MakerAt W.heap.size W.heap.size (LM.leB 4 (S1:Int) ++ LM.leB 2 ((min C0 65535:Nat):Int)) w'∧Below W.heap.size W w')):=fun W=>newMk S1 C0 (by have:=HS1.out; have:=HS0.out; omega) HS30.out HC20.out W
          refine (show Calls _ _ _ _ _ from HNM.out _).mono ?_
          rintro e w6 ⟨rfl,hm6,hb6⟩
          have hgl:1 < wr.heap.size:=by
            have:=lt_of_cell (HW.out.on HB.out).wid.c0; exact this
          have hwr1:w.heap.size < wr.heap.size:=row_lt HR.out
          obtain ⟨B,hBe⟩:∃ B,wr.heap.size=B:=⟨_,rfl⟩
          rw [hBe] at hm6 hb6 hgl hwr1
          rw [hBe]
          have HB6:Hid (Below B wr w6):=hb6
          have HBB6:Hid (Below w.heap.size w w6):=HB.out.trans (hb6.mono (by omega))
          have HR6:Hid (w6.heap[w.heap.size]?=some (.cells #[.string Bo,.int .i64 (l.length:Int)] 349)):=(hb6.block _ hwr1).trans HR.out
          generalize hL0:LM.leB 4 (S1:Int) ++ LM.leB 2 ((min C0 65535:Nat):Int)=L0 at hm6
          have hL0l:L0.length=6:=by rw [← hL0]; simp [LM.leB_len]
          have HL0:Hid _:=hL0
          have HM6:Hid (MakerAt B B L0 (w6.drewN 1)):=maker_dn hm6 1
          have hB6:B ≤ w6.heap.size:=by rw [← hBe]; exact hb6.size
          obtain ⟨q0,q1,qf⟩:=prow2 HR6.out
          obtain ⟨Z1,hZ1⟩:∃ Z1,Bo.extract 0 F=Z1:=⟨_,rfl⟩
          have HZ1:Hid (Z1.data.toList=LM.bodyOf (l.take i)):=by show _=_; rw [← hZ1,ext_any,HBL.out]; simpa using HX1.out
          have hZ1s:Z1.size ≤ 1073741824:=by rw [← hZ1,ext_size Bo 0 F (by omega)]; omega
          have HWS:Hid (Calls Tryz.prog 296 #[.pointer (some ⟨B,0,none⟩),.string Z1] (w6.drewN 1) fun e w'=>e=.returned (.tuple #[.int .i64 Z1.size,.nilIface])∧(MakerAt B B (L0 ++ Z1.data.toList) w'∧BK B B (w6.drewN 1) w')):=writeString_any B B L0 Z1 (w6.drewN 1) HM6.out (by omega) hB6
          clear hm6 hb6 hL0
          go_wp2_with fail
          go_cut [] from 65 to 72 (fun wx=>MakerAt B B (L0 ++ LM.bodyOf (l.take i)) wx∧Below B w6 wx)
          case first =>
            go_region_with (go_at_call 296; refine (show Calls _ _ _ _ _ from HWS.out).mono ?_; rintro e w7 ⟨rfl,hm7,hk7⟩)
            all_goals (go_wp2_with fail; go_meet; exact ⟨by rw [HZ1.out] at hm7; exact hm7,(below_dn (Below.refl _ w6) 1).trans hk7.bel⟩)
          case rest =>
          obtain ⟨hm7,hb7⟩:=hcut
          have HM7:Hid (MakerAt B B (L0 ++ LM.bodyOf (l.take i)) wc):=hm7
          have HB7:Hid (Below B w6 wc):=hb7
          clear hm7 hb7 q0 q1 qf hZ1 hZ1s
          go_wp2
          go_loopw [75] (fun cj wr2=>∃ j:Nat,j ≤ vs.length∧cj=.int .i64 (j:Int)∧MakerAt B B (L0 ++ LM.bodyOf (l.take i) ++ LM.bodyOf ((vs.take j).map (fun v=>LM.itemOf v.data.toList))) wr2∧Below B w6 wr2) (fun cj _=>vs.length - (intOf cj).toNat)
          case atStart=>exact ⟨0,by omega,rfl,by simpa [LM.bodyOf] using HM7.out,HB7.out⟩
          case round =>
            obtain ⟨j,hj,rfl,hm,hb⟩:=hrel
            have HBw:Hid (Below B w6 wr):=hb
            have HLY:Hid (Lay wr):=HW.out.on (HBB6.out.trans (hb.mono (by omega)))
            have HLL:Hid ((LM.bodyOf ((vs.take j).map (fun v=>LM.itemOf v.data.toList))).length ≤ 1073741824):=by
              show _ ≤ _
              rw [LM.bodyOf_len,bsum_items _ (fun v hv=>HALL2.out v (List.mem_of_mem_take hv))]
              have:=sumV_take vs j; have:=HS1.out; have:=HS30.out; omega
            have HL1:Hid ((LM.bodyOf (l.take i)).length ≤ 1073741824):=by show _ ≤ _; rw [LM.bodyOf_len,hF]; omega
            by_cases hlt:j < vs.length
            · obtain ⟨X,hX⟩:∃ X,vs[j]=X:=⟨_,rfl⟩
              have hXm:X.size ≤ 524288:=by rw [← hX]; exact HALL2.out _ (List.getElem_mem hlt)
              obtain ⟨g,o,hPe,hcell⟩:∃ g o,P=some ⟨g,o,none⟩∧wr.cell? ⟨g,o + j,none⟩=some (.string X):=by
                rcases HV.out.on (HBB6.out.trans (HBw.out.mono (by omega))) with ⟨he,_⟩ | ⟨g,o,c',h1,h2⟩
                · rw [he] at hlt; simp at hlt
                · injection h1 with h1 _ _
                  exact ⟨g,o,h1,by rw [← hX]; exact h2 j hlt⟩
              subst hPe
              have hBr:B ≤ wr.heap.size:=Nat.le_trans hB6 hb.size
              have HIT:Hid (∀ W,Laid W → Calls Tryz.prog 298 #[.string X] W fun e w'=>e=.returned (.agg #[.string (strB (LM.itemOf X.data.toList).txt),.int .i64 (LM.itemOf X.data.toList).num,.bool (LM.itemOf X.data.toList).isN])∧Below W.heap.size W w'):=fun W hW=>itemOf_any X (by omega) W hW
              have HPT:Hid (∀ W,Wid W → MakerAt B B (L0 ++ LM.bodyOf (l.take i) ++ LM.bodyOf ((vs.take j).map (fun v=>LM.itemOf v.data.toList))) W → B ≤ W.heap.size → Calls Tryz.prog 297 #[.pointer (some ⟨B,0,none⟩),.agg #[.string (strB (LM.itemOf X.data.toList).txt),.int .i64 (LM.itemOf X.data.toList).num,.bool (LM.itemOf X.data.toList).isN]] W fun e w'=>e=.returned (.tuple #[])∧(MakerAt B B (L0 ++ LM.bodyOf (l.take i) ++ LM.bodyOf ((vs.take j).map (fun v=>LM.itemOf v.data.toList)) ++ LM.ent (LM.itemOf X.data.toList)) w'∧BK B B W w')):=fun W hW hM hB=>put_mk B B _ (LM.itemOf X.data.toList) (LM.itemOf_wf _ (by rw [list_len]; exact hXm)) W hW hgl hM (by simp only [List.length_append]; have:=HLL.out; have:=HL1.out; have:=HC20.out; omega) hB
              have HTK:Hid (LM.bodyOf ((vs.take (j + 1)).map (fun v=>LM.itemOf v.data.toList))=LM.bodyOf ((vs.take j).map (fun v=>LM.itemOf v.data.toList)) ++ LM.ent (LM.itemOf X.data.toList)):=by
                show _=_; rw [List.take_succ_eq_append_getElem hlt,hX,List.map_append,LM.bodyOf_app]; simp [LM.bodyOf]
              have HMJ:Hid (MakerAt B B (L0 ++ LM.bodyOf (l.take i) ++ LM.bodyOf ((vs.take j).map (fun v=>LM.itemOf v.data.toList))) wr):=hm
              generalize LM.bodyOf ((vs.take j).map (fun v=>LM.itemOf v.data.toList))=BJ at *
              generalize strB (LM.itemOf X.data.toList).txt=xT at *
              generalize (LM.itemOf X.data.toList).num=xn at *
              generalize (LM.itemOf X.data.toList).isN=xq at *
              clear hm hb hXm hX
              go_wp2_with fail
              refine (show Calls _ _ _ _ _ from HIT.out _ HLY.out.laid).mono ?_
              rintro e w8 ⟨rfl,hb8⟩
              have HB8:Hid (Below B w6 w8):=HBw.out.trans (hb8.mono hBr)
              have HM8:Hid (MakerAt B B (L0 ++ LM.bodyOf (l.take i) ++ BJ) w8):=maker_keep HMJ.out hb8
              have HL8:Hid (Lay w8):=HLY.out.on hb8
              have hB8:B ≤ w8.heap.size:=Nat.le_trans hBr hb8.size
              clear hb8
              go_wp2_with fail
              refine (show Calls _ _ _ _ _ from HPT.out _ HL8.out.wid HM8.out hB8).mono ?_
              rintro e w9 ⟨rfl,hm9,hk9⟩
              have HB9:Hid (Below B w6 w9):=HB8.out.trans hk9.bel
              have HM9:Hid (MakerAt B B _ w9):=hm9
              clear hm9 hk9
              go_wp2
              go_roundw
              case rel=>exact ⟨j + 1,hlt,rfl,maker_eq HM9.out (by rw [HTK.out]; simp),HB9.out⟩
              case measure=>simp [intOf]; omega
            · have he:j=vs.length:=by omega
              subst he
              have HMJ:Hid (MakerAt B B (L0 ++ LM.bodyOf (l.take i) ++ LM.bodyOf (vs.map (fun v=>LM.itemOf v.data.toList))) (wr.drewN 1)):=maker_dn (maker_eq hm (by rw [List.take_length])) 1
              rw [List.take_length] at HLL
              have hBr:B ≤ wr.heap.size:=Nat.le_trans hB6 hb.size
              have HRr:Hid (wr.heap[w.heap.size]?=some (.cells #[.string Bo,.int .i64 (l.length:Int)] 349)):=(hb.block _ hwr1).trans HR6.out
              obtain ⟨q0,q1,qf⟩:=prow2 HRr.out
              obtain ⟨Z2,hZ2⟩:∃ Z2,Bo.extract T (LM.bsum l)=Z2:=⟨_,rfl⟩
              have HZ2:Hid (Z2.data.toList=LM.bodyOf (l.drop (i + n))):=by
                show _=_; rw [← hZ2,ext_any,HBL.out]
                rw [List.take_of_length_le (by rw [List.length_drop,LM.bodyOf_len]; omega)]
                exact HXB.out
              have HZ2s:Hid (Z2.size ≤ 1073741824):=by show _ ≤ _; rw [← hZ2,ext_size Bo T (LM.bsum l) (by omega)]; omega
              have HWS2:Hid (Calls Tryz.prog 296 #[.pointer (some ⟨B,0,none⟩),.string Z2] (wr.drewN 1) fun e w'=>e=.returned (.tuple #[.int .i64 Z2.size,.nilIface])∧(MakerAt B B (L0 ++ LM.bodyOf (l.take i) ++ LM.bodyOf (vs.map (fun v=>LM.itemOf v.data.toList)) ++ Z2.data.toList) w'∧BK B B (wr.drewN 1) w')):=writeString_any B B _ Z2 (wr.drewN 1) HMJ.out (by simp only [List.length_append]; have:=HLL.out; have:=HL1.out; have:=HZ2s.out; omega) hBr
              clear hm hb
              go_wp2_with fail
              go_cut [] from 84 to 91 (fun wx=>MakerAt B B (L0 ++ LM.bodyOf (l.take i) ++ LM.bodyOf (vs.map (fun v=>LM.itemOf v.data.toList)) ++ LM.bodyOf (l.drop (i + n))) wx∧Below B w6 wx)
              case first =>
                go_region_with (go_at_call 296; refine (show Calls _ _ _ _ _ from HWS2.out).mono ?_; rintro e w7 ⟨rfl,hm7,hk7⟩)
                all_goals (go_wp2_with fail; go_meet; exact ⟨by rw [HZ2.out] at hm7; exact hm7,(below_dn HBw.out 1).trans hk7.bel⟩)
              case rest =>
              obtain ⟨hm8,hb8⟩:=hcut
              have HM8:Hid (MakerAt B B (L0 ++ LM.bodyOf (l.take i) ++ LM.bodyOf (vs.map (fun v=>LM.itemOf v.data.toList)) ++ LM.bodyOf (l.drop (i + n))) wc):=hm8
              have HB8:Hid (Below B w6 wc):=hb8
              have hB8:B ≤ wc.heap.size:=Nat.le_trans hB6 hb8.size
              have HLX:Hid ((L0 ++ LM.bodyOf (l.take i) ++ LM.bodyOf (vs.map (fun v=>LM.itemOf v.data.toList)) ++ LM.bodyOf (l.drop (i + n))).length ≤ 2199023255552):=by
                show _ ≤ _; simp only [List.length_append]; have:=HLL.out; have:=HL1.out; have:=HZ2s.out; rw [← HZ2.out,list_len]; omega
              clear hm8 hb8 q0 q1 qf hZ2
              go_wp2_with fail
              refine (wb_eq B B _ 255 _ rfl _ HM8.out HLX.out hB8).mono ?_
              rintro e w9 ⟨rfl,hm9,hk9⟩
              have HM9:Hid (MakerAt B B _ w9):=hm9
              have HB9:Hid (Below B w6 w9):=HB8.out.trans hk9.bel
              clear hm9 hk9
              have HST:Hid (Calls Tryz.prog 135 #[.pointer (some ⟨B,0,none⟩)] w9 fun e w'=>e=.returned (.string (strB (LM.build (newI l i n vs))))∧Below B w9 w'):=by
                have hbu:L0 ++ LM.bodyOf (l.take i) ++ LM.bodyOf (vs.map (fun v=>LM.itemOf v.data.toList)) ++ LM.bodyOf (l.drop (i + n)) ++ [255]=LM.build (newI l i n vs):=by
                  unfold LM.build
                  rw [HBI.out,HLN.out,← HC0.out,HNI.out HALL2.out,← HL0.out]
                  rw [show 7 + (F + (sumV vs + R))=S1 by have:=HS1.out; have:=HS0.out; omega]
                  simp
                have:=string_any B B _ w9 HM9.out (by simp)
                rwa [hbu] at this
              go_wp2_with fail
              refine (show Calls _ _ _ _ _ from HST.out).mono ?_
              rintro e w10 ⟨rfl,hb10⟩
              have HB10:Hid (Below w.heap.size w w10):=HBB6.out.trans ((HB9.out.trans hb10).mono (by omega))
              clear hb10
              go_wp2
              go_ret2
              refine ⟨?_,HB10.out⟩
              unfold outS; rw [if_pos HFT.out]; rfl
        · have hd30:decide ((1073741824:Int) < (S1:Int))=true:=dec_t (by omega)
          have HNF:Hid (¬ fitI l i n vs):=fun h=>by have:=(HFIT.out.1 h).2.2; have:=HS0.out; have:=HS1.out; omega
          clear hc20 hs30
          go_wp2
          go_ret2
          refine ⟨?_,HB.out⟩
          unfold outS; rw [if_neg HNF.out]; rfl
      · have hd20:decide ((1048576:Int) < (C0:Int))=true:=dec_t (by omega)
        have HNF:Hid (¬ fitI l i n vs):=fun h=>by have:=(HFIT.out.1 h).2.1; have:=HC0.out; omega
        clear hc20
        go_wp2
        go_ret2
        refine ⟨?_,HB.out⟩
        unfold outS; rw [if_neg HNF.out]; rfl
end Go.Proofs.YtiefeeoellagnaaGreatDoor.S6
namespace Go.Proofs.YtiefeeoellagnaaGreatDoor.S6
open Go.RowKit
set_option linter.unusedVariables false
open Classical in
set_option maxHeartbeats 1000000 in
theorem New_any (v:Value) (vs:List ByteArray) (hvl:vs.length ≤ 70368744177664) (hvm:∀ x ∈ vs,x.size ≤ 281474976710656) (w:World) (hv:SRow w v vs) (hw:Lay w) :
    Calls Tryz.prog 198 #[v] w fun e w'=>e=.returned (outS (fitI [] 0 0 vs) (LM.build (newI [] 0 0 vs)))∧Below w.heap.size w w':=by
  have HSP:Hid (∀ W,SRow W v vs → Lay W → Calls Tryz.prog 235 #[.agg #[.string ⟨#[]⟩,.int .i64 0],.int .i64 0,.int .i64 0,v] W fun e w'=>e=.returned (outS (fitI [] 0 0 vs) (LM.build (newI [] 0 0 vs)))∧Below W.heap.size W w'):=fun W hV hW =>
    spl_any [] begC_nil (by simp) (by simp [LM.bsum]) (by simp) 0 0 (by simp) v vs hvl hvm W hV hW
  have HV:Hid (SRow w v vs):=hv
  have HW:Hid (Lay w):=hw
  obtain ⟨P,c,rfl⟩:=hv.form
  clear hv hw hvm
  by_cases hf:fitI [] 0 0 vs
  · have HO:Hid (outS (fitI [] 0 0 vs) (LM.build (newI [] 0 0 vs))=.tuple #[.string (strB (LM.build (newI [] 0 0 vs))),.int .i64 0]):=by show _=_; unfold outS; rw [if_pos hf]
    rw [HO.out] at HSP ⊢
    clear hf
    generalize strB (LM.build (newI [] 0 0 vs))=Z at *
    go_enter Tryz.func198,Tryz.ntmps198
    go_wp2_with fail
    refine (show Calls _ _ _ _ _ from HSP.out _ HV.out HW.out).mono ?_
    rintro e w1 ⟨rfl,hb1⟩
    have HB:Hid (Below w.heap.size w w1):=hb1
    clear hb1
    go_wp2
    go_ret2
    exact ⟨rfl,HB.out⟩
  · have HO:Hid (outS (fitI [] 0 0 vs) (LM.build (newI [] 0 0 vs))=.tuple #[.string ⟨#[]⟩,.int .i64 2]):=by show _=_; unfold outS; rw [if_neg hf]
    rw [HO.out] at HSP ⊢
    clear hf
    go_enter Tryz.func198,Tryz.ntmps198
    go_wp2_with fail
    refine (show Calls _ _ _ _ _ from HSP.out _ HV.out HW.out).mono ?_
    rintro e w1 ⟨rfl,hb1⟩
    have HB:Hid (Below w.heap.size w w1):=hb1
    clear hb1
    go_wp2
    go_ret2
    exact ⟨rfl,HB.out⟩
end Go.Proofs.YtiefeeoellagnaaGreatDoor.S6
namespace Go.Proofs.YtiefeeoellagnaaGreatDoor.S6
open Go.RowKit
set_option linter.unusedVariables false
attribute [local go_sem] Oper.semAt_some
def atV (l:List LM.Item) (i:Int):Value:=match (if 0 ≤ i then l[i.toNat]? else none) with
  | some it=>.tuple #[.string (strB (LM.val it)),.int .i64 0]
  | none=>.tuple #[.string ⟨#[]⟩,.int .i64 6]
end Go.Proofs.YtiefeeoellagnaaGreatDoor.S6
namespace Go.Proofs.YtiefeeoellagnaaGreatDoor.S6
open Go.RowKit
set_option linter.unusedVariables false
end Go.Proofs.YtiefeeoellagnaaGreatDoor.S6
namespace Go.Proofs.YtiefeeoellagnaaGreatDoor.S6
open Go.RowKit
set_option linter.unusedVariables false
theorem info9:(Tryz.prog.info? 9).map (fun i=>(i.zero,i.size,i.bytes))=some (some (.string ⟨#[]⟩),1,16):=by kernel_rfl
theorem nil_cap {c:Nat} (h:Value.slice none 0 0=.slice none 0 c):c=0:=by injection h with _ _ h; exact h.symm
theorem srow_of_own {w:World} {base n:Nat} {v:Value} {vs:List ByteArray} (h:w.ownsRow base 9 1 v n (vs.map Value.string)) (hn:n=vs.length):SRow w v vs:=by
  obtain ⟨_,⟨rfl,h0⟩ | ⟨g,cap,cur,rfl,hb,hg,h1,h2,h3,h4⟩⟩:=h
  · exact Or.inl ⟨List.eq_nil_of_length_eq_zero (by omega),none,0,rfl⟩
  · subst hn
    refine Or.inr ⟨g,0,cap,rfl,fun j hj=>?_⟩
    rw [cell_of_row _ _ _ _ _ _ hg,← Array.getElem?_toList,Nat.zero_add]
    have h5:(cur.toList.take (vs.length * 1))[j]?=(vs.map Value.string)[j]?:=by rw [h4]
    rw [List.getElem?_take_of_lt (by omega),List.getElem?_map,List.getElem?_eq_getElem hj] at h5
    exact h5
theorem SRow.forms {w:World} {v:Value} {vs:List ByteArray} (h:SRow w v vs) (hnil:∀ c,v=.slice none 0 c → c=0) :
    (v=.slice none 0 0∧vs=[]) ∨ ∃ ad c,v=.slice (some ad) vs.length c∧∀ j u,(vs.map Value.string)[j]?=some u → w.cell? (ad.add j)=some u:=by
  rcases h with ⟨rfl,p,c,rfl⟩ | ⟨g,o,c,rfl,hc⟩
  · cases p with
    | none=>left; rw [hnil c rfl]; exact ⟨rfl,rfl⟩
    | some ad=>right; exact ⟨ad,c,rfl,fun j u hu=>by simp at hu⟩
  · right
    refine ⟨⟨g,o,none⟩,c,rfl,fun j u hu=>?_⟩
    rw [List.getElem?_map] at hu
    by_cases hj:j < vs.length
    · rw [List.getElem?_eq_getElem hj] at hu
      have:=hc j hj
      simp at hu
      subst hu
      rw [Lib.add_plain]; exact this
    · rw [List.getElem?_eq_none (by omega)] at hu
      cases hu
end Go.Proofs.YtiefeeoellagnaaGreatDoor.S6
