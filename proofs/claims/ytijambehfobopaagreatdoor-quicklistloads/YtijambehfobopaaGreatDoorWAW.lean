import Derived.Test.YtijambehfobopaaGreatDoorDH
import Derived.Test.YtijambehfobopaaGreatDoorWAS
import Derived.Test.YtijambehfobopaaGreatDoorWAM
import Derived.Test.YtijambehfobopaaGreatDoorWAV
import Derived.Maps.AppendAt
namespace Go.Proofs.YtijambehfobopaaGreatDoor
open Go.RowKit
set_option linter.unusedVariables false
set_option linter.unusedSimpArgs false
theorem itsv (X:List ByteArray):(itsOf X).map (fun it=>Value.string (strB (LM.val it)))=strV X:=by
  unfold itsOf
  rw [List.map_map]
  refine List.map_congr_left (fun x _=>?_)
  show Value.string (strB (LM.val (LM.itemOf x.data.toList)))=_
  rw [LM.val_itemOf,bytes_ext (strB_list x.data.toList)]
theorem itsrv (X:List ByteArray):(itsOf X).reverse.map (fun it=>Value.string (strB (LM.val it)))=strV X.reverse:=by
  rw [List.map_reverse,itsv]; simp [strV]
theorem walk2 (X:List ByteArray) (hX:Fit X) (back:Bool) (w:World) (hw:Lay w):Calls Tryz.prog 90 #[.string (packN X),.bool back] w fun e w'=>(∃ g,e=.returned (.tuple #[.slice (some ⟨g,0,none⟩) X.length X.length,.int .i64 0])∧w'.ownsRow w.heap.size 9 1 (.slice (some ⟨g,0,none⟩) X.length X.length) X.length (strV (if back then X.reverse else X)))∧Below w.heap.size w w':=by
  cases back with
  | false =>
    have:=Walk_f (packN X) (itsOf X) hX.pk w hw
    rw [its_len,itsv] at this; exact this
  | true =>
    have:=Walk_b (packN X) (itsOf X) hX.pk w hw
    rw [its_len,itsrv] at this; exact this
set_option maxHeartbeats 1000000 in
set_option maxRecDepth 100000 in
theorem vals_any (X:List ByteArray) (hX:Fit X) (l back:Bool) (w:World) (hw:Lay w):Calls Tryz.prog 51 #[.agg #[.string (packN X),.int .i64 (X.length:Int),.bool l],.bool back] w fun e w'=>(∃ g,e=.returned (.slice (some ⟨g,0,none⟩) X.length X.length)∧w'.ownsRow w.heap.size 9 1 (.slice (some ⟨g,0,none⟩) X.length X.length) X.length (strV (if back then X.reverse else X)))∧Below w.heap.size w w':=by
  have HW:Hid (Lay w):=hw
  have HI:Hid (∀ W,Lay W → Calls Tryz.prog 90 #[.string (packN X),.bool back] W fun e w'=>(∃ g,e=.returned (.tuple #[.slice (some ⟨g,0,none⟩) X.length X.length,.int .i64 0])∧w'.ownsRow W.heap.size 9 1 (.slice (some ⟨g,0,none⟩) X.length X.length) X.length (strV (if back then X.reverse else X)))∧Below W.heap.size W w'):=fun W hW=>walk2 X hX back W hW
  clear hw hX
  generalize packN X=P at *
  generalize strV (if back then X.reverse else X)=R at *
  generalize X.length=n at *
  go_enter Tryz.func51,Tryz.ntmps51
  go_wp2_with fail
  refine (show Calls _ _ _ _ _ from HI.out _ (HW.out.on ((Below.refl _ w).alloc (Nat.le_refl _) _))).mono ?_
  rintro e w1 ⟨⟨g,rfl,ho⟩,hb⟩
  have HO:Hid (w1.ownsRow w.heap.size 9 1 (.slice (some ⟨g,0,none⟩) n n) n R):=own_lower ho (by simp)
  have HB:Hid (Below w.heap.size w w1):=bel_to ((Below.refl _ w).alloc (Nat.le_refl _) _) hb (Nat.le_refl _)
  clear ho hb
  go_wp2
  go_returns
  exact ⟨⟨_,rfl,HO.out⟩,HB.out⟩
theorem DRow.sub3 {ok:Nat → Prop} {w:World} {v:Value} {vs:List Value} {t e:TypeId} (hu:Tryz.prog.underlying t=some (.slice e)) (hz:∀ W,(Go.sizeOf e).run Tryz.prog W=.ok 1 W) (h:DRow ok w v vs) (a b m:Nat) (hab:a ≤ b) (hb:b ≤ vs.length) (hm:m=b - a):∃ P c,DRow ok w (.slice P m c) ((vs.take b).drop a)∧∀ W,(Instr.slice t v (some (.int .i64 (a:Int))) (some (.int .i64 (b:Int))) (some (.int .i64 (b:Int)))).run Tryz.prog W=.ok (.slice P m c) W:=by
  have ht':Tryz.prog.underlying t=some (.slice (Tryz.prog.elem t)):=by simp [Program.elem,hu]
  have he:Tryz.prog.elem t=e:=by simp [Program.elem,hu]
  have hl:((vs.take b).drop a).length=m:=by rw [List.length_drop,List.length_take]; omega
  rcases h with ⟨rfl,rfl⟩ | ⟨g,o,c,rfl,h2,h3,h4,h5⟩
  · simp at hb; subst hb
    have ha:a=0:=by omega
    subst ha
    simp at hm; subst hm
    refine ⟨none,0,Or.inl ⟨rfl,by simp⟩,fun W=>?_⟩
    rw [run_slice_lhm W t _ _ _ ht' .i64 .i64 .i64 _ _ _ (by omega) (by omega) (by omega) (by omega),he,hz]
    simp [Result.andThen,sliced]
  · by_cases hc:b=a
    · have hm0:m=0:=by omega
      subst hm0
      refine ⟨some ⟨g,o,none⟩,0,Or.inr ⟨g,o,0,by rw [hl],by omega,h3,h4,fun j u hu=>?_⟩,fun W=>?_⟩
      · have:=(List.getElem?_eq_some_iff.1 hu).1; omega
      · rw [run_slice_lhm W t _ _ _ ht' .i64 .i64 .i64 _ _ _ (by omega) (by omega) (by omega) (by omega),he,hz]
        simp [Result.andThen,sliced,hc]
    · refine ⟨some ⟨g,o + a,none⟩,m,Or.inr ⟨g,o + a,m,by rw [hl],by omega,h3,h4,fun j u hu=>?_⟩,fun W=>?_⟩
      · have hj:=(List.getElem?_eq_some_iff.1 hu).1
        rw [List.getElem?_drop,List.getElem?_take_of_lt (by omega)] at hu
        rw [Nat.add_assoc]; exact h5 _ u hu
      · rw [run_slice_lhm W t _ _ _ ht' .i64 .i64 .i64 _ _ _ (by omega) (by omega) (by omega) (by omega),he,hz]
        by_cases h0:a=0
        · subst h0; simp [Result.andThen,sliced,Addr.add,hm]
        · simp [Result.andThen,sliced,Addr.add,hc,h0,hm]
set_option maxHeartbeats 1000000 in
set_option maxRecDepth 100000 in
theorem part_any (X:List ByteArray) (hX:Fit X) (l:Bool) (a b:Nat) (hab:a ≤ b) (hb:b ≤ X.length) (w:World) (hw:Lay w):Calls Tryz.prog 47 #[.agg #[.string (packN X),.int .i64 (X.length:Int),.bool l],.int .i64 (a:Int),.int .i64 (b:Int)] w fun e w'=>(∃ P c,e=.returned (.slice P (b - a) c)∧DRow (fun k=>w.heap.size ≤ k) w' (.slice P (b - a) c) (strV ((X.take b).drop a)))∧Below w.heap.size w w':=by
  have HW:Hid (Lay w):=hw
  have HI:Hid (∀ W,Lay W → Calls Tryz.prog 51 #[.agg #[.string (packN X),.int .i64 (X.length:Int),.bool l],.bool false] W fun e w'=>(∃ g,e=.returned (.slice (some ⟨g,0,none⟩) X.length X.length)∧w'.ownsRow W.heap.size 9 1 (.slice (some ⟨g,0,none⟩) X.length X.length) X.length (strV X))∧Below W.heap.size W w'):=fun W hW=>vals_any X hX l false W hW
  have HS:Hid (strV ((X.take b).drop a)=((strV X).take b).drop a):=by show _=_; simp [strV,List.map_take,List.map_drop]
  have HLX:Hid ((strV X).length=X.length):=by show _=_; simp
  have HAB:Hid (a ≤ b):=hab
  have HBX:Hid (b ≤ X.length):=hb
  obtain ⟨m,hm⟩:∃ m,b - a=m:=⟨_,rfl⟩
  have HM:Hid (b - a=m):=hm
  rw [hm]
  clear hw hX hab hb hm
  generalize packN X=P at *
  go_enter Tryz.func47,Tryz.ntmps47
  go_wp2_with fail
  refine (show Calls _ _ _ _ _ from HI.out _ (HW.out.on ((Below.refl _ w).alloc (Nat.le_refl _) _))).mono ?_
  rintro e w1 ⟨⟨g,rfl,ho⟩,hb⟩
  have hd:=DRow.of_own (ok:=fun k=>w.heap.size ≤ k) (own_lower ho (show w.heap.size ≤ _ by simp)) (by rw [HLX.out]) (fun q hq=>hq)
  obtain ⟨P3,c3,hd3,hr3⟩:=hd.sub3 und22 size9 a b m HAB.out (by rw [HLX.out]; exact HBX.out) HM.out.symm
  have HD:Hid (DRow (fun k=>w.heap.size ≤ k) w1 (.slice P3 m c3) (((strV X).take b).drop a)):=hd3
  have HB:Hid (Below w.heap.size w w1):=bel_to ((Below.refl _ w).alloc (Nat.le_refl _) _) hb (Nat.le_refl _)
  clear ho hb hd hd3
  go_wp2
  go_returns
  exact ⟨⟨_,_,rfl,by rw [HS.out]; exact HD.out⟩,HB.out⟩
end Go.Proofs.YtijambehfobopaaGreatDoor
namespace Go.Proofs.YtijambehfobopaaGreatDoor
open Go.RowKit
set_option linter.unusedVariables false
set_option linter.unusedSimpArgs false
def rngQ {α:Type} (L:List α) (fr tt:Int):List α:=(L.take (tt + 1).toNat).drop fr.toNat
section
variable {ok:Nat → Prop}
end
end Go.Proofs.YtijambehfobopaaGreatDoor
namespace Go.Proofs.YtijambehfobopaaGreatDoor
open Go.RowKit Go.Shelf
set_option linter.unusedVariables false
set_option linter.unusedSimpArgs false
attribute [local go_sem] Oper.semAt_some
def cR:Code → Code
  | .seq _ y=>y
  | c=>c
def cL:Code → Code
  | .seq x _=>x
  | c=>c
def cBk:Code → Code
  | .block _ c=>c
  | c=>c
def cRg:Code → Code
  | .rangeFunc _ _ _ b=>b
  | c=>c
section
variable {b0 g r c:Nat} {rest:List Value} {nv:Value} {E B:Nat} {N:QM.NL}
structure RS (g t q kl kL kk g9 bx tot m lft kq:Nat) (xs:List Value) (w W:World):Prop where
  own:∃ cur,W.heap[g9]?=some (.cells cur 9)∧cur.size=tot∧cur.toList.take m=xs
  lst:W.heap[kL]?=some (.cells #[.slice (some ⟨g9,0,none⟩) m tot] 22)
  lf:W.heap[kl]?=some (.cells #[.int .i64 (lft:Int)] 3)
  kx:W.heap[kk]?=some (.cells #[.int .i64 (kq:Int)] 3)
  x0:W.heap[bx]?=some (.cells #[ptr g] 23)
  x1:W.heap[bx + 1]?=some (.cells #[.int .i64 0,.int .i64 (t:Int),.int .i64 (q:Int)] 65)
  x2:W.heap[bx + 1 + 1]?=some (.cells #[.bool false] 4)
  bel:Below w.heap.size w W
set_option maxHeartbeats 4000000 in
set_option maxRecDepth 100000 in
theorem rng_body {α:Type} (n ll BB t q kl kL kk g9 bx tot m lft kq kn hh s1 mm l2 LX:Nat) (PK:ByteArray) (LG:Bool) (xs NW:List Value) (w W:World) (I:List α → World → Prop) (Ix:Code → List α → World → Prop) (Ip:World → Prop) (ys:List α) (u0 u1 u2 u3 u4 u5 u6 u9 u12 u13 u14 u15 u16 u17 u18 u19 u20 u21 u22 u23 u24 u25 u26 u27 u28 u29 u30 u31 u32 u33 u34 u35 u36 u37 u38 u39 u40 u41 u42 u43 u44 u45 u46 u47 u48 u49 u50 u51 u52 u53 u54 u55 u56 u57 u58:Value)
    (hRS:RS g t q kl kL kk g9 bx tot m lft kq xs w W) (hrow:W.heap[kn]?=some (.cells #[.string PK,.int .i64 (LX:Int),.bool LG] 55))
    (hPA:Calls Tryz.prog 47 #[.agg #[.string PK,.int .i64 (LX:Int),.bool LG],.int .i64 (kq:Int),.int .i64 (hh:Int)] W fun e w'=>(∃ P c,e=.returned (.slice P mm c)∧DRow (fun k=>W.heap.size ≤ k) w' (.slice P mm c) NW)∧Below W.heap.size W w')
    (hwk:IntKind.i64.wrap ((kq:Int) + (lft:Int))=(s1:Int)) (hmn:min (LX:Int) (s1:Int)=(hh:Int)) (hwl:IntKind.i64.wrap ((lft:Int) - (mm:Int))=(l2:Int)) (hNL:NW.length=mm) (hNO:∀ u ∈ NW,u.oneCell'=true) (hfit:m + mm ≤ tot) (hpos:0 < mm) (htot:tot ≤ 1000000)
    (hds:w.heap.size ≤ kl∧w.heap.size ≤ g9∧w.heap.size ≤ kL∧w.heap.size ≤ kk∧g9 ≠ kL∧g9 ≠ kl∧kL ≠ kl∧kk ≠ kl∧kk ≠ kL∧kk ≠ g9∧kl < BB∧kL < BB∧kk < BB∧g9 < BB) (hbd:∀ y,y=bx ∨ y=bx + 1 ∨ y=bx + 1 + 1 → y ≠ kl∧y ≠ kL∧y ≠ kk∧y ≠ g9)
    (hN:l2 ≠ 0 → ∀ W',RS g t q kl kL kk g9 bx tot (m + mm) l2 0 (xs ++ NW) w W' → I ys W')
    (hX:l2=0 → ∀ W',RS g t q kl kL kk g9 bx tot (m + mm) l2 kq (xs ++ NW) w W' → Ix (.exit 0) ys W') :
    (cRg (cBk (cR (cL (cR (cR (cR (cR (cR (cR (cR ((Tryz.f18).body.getD .skip)))))))))))).wpIn (Fence.wide.inRound ll) n Tryz.prog (pPost BB pch I Ix Ip ys W) { tmps:=#[u0,u1,u2,u3,u4,u5,u6,ptr kl,ptr kL,u9,ptr kk,ptr kn,u12,u13,u14,u15,u16,u17,u18,u19,u20,u21,u22,u23,u24,u25,u26,u27,u28,u29,u30,u31,u32,u33,u34,u35,u36,u37,u38,u39,u40,u41,u42,u43,u44,u45,u46,u47,u48,u49,u50,u51,u52,u53,u54,u55,u56,u57,u58],defers:=[] } W:=by
  have HRS:Hid (RS g t q kl kL kk g9 bx tot m lft kq xs w W):=hRS
  have HPA:Hid _:=hPA
  have HN:Hid _:=hN
  have HX:Hid _:=hX
  have HDS:Hid _:=hds
  have HBD:Hid _:=hbd
  have HNL:Hid (NW.length=mm):=hNL
  have HNO:Hid _:=hNO
  have HFT:Hid (m + mm ≤ tot∧0 < mm∧m ≤ tot∧tot ≤ maxLen):=⟨hfit,hpos,by omega,by unfold maxLen; omega⟩
  obtain ⟨cur,hG,hGs,hGt⟩:=hRS.own
  obtain ⟨v0,vf⟩:=row1 hRS.lst
  obtain ⟨f0,ff⟩:=row1 hRS.lf
  obtain ⟨k0,kf⟩:=row1 hRS.kx
  obtain ⟨n0,n1,n2,nf⟩:=row3 hrow
  have HCC:Hid (cur.size=tot∧cur.toList.take m=xs∧W.heap[g9]?=some (.cells cur 9)):=⟨hGs,hGt,hG⟩
  obtain ⟨i9,hi9,hz0,hz1,hz2⟩:=info_parts info9
  clear hRS hPA hN hX hds hbd hG hGs hGt hrow hNL hNO hfit hpos htot hz0 hz2
  simp only [cR,cL,cBk,cRg,Tryz.f18,Option.getD_some]
  gi_wp2_with fail
  refine ⟨trivial,fun h=>(by cases h),(CallsIn.inRound ll (callsIn_wide.2 HPA.out)).mono ?_⟩
  rintro e w5 ⟨⟨P,cc,rfl,hd⟩,hb5⟩
  have HB5:Hid (Below W.heap.size W w5):=hb5
  obtain ⟨gP,oP,hP,hcl⟩:∃ gP oP,P=some ⟨gP,oP,none⟩∧∀ j u,NW[j]?=some u → w5.cell? ⟨gP,oP + j,none⟩=some u:=by
    rcases hd with ⟨_,h0⟩ | ⟨g1,o1,c1,h1,_,_,_,h5⟩
    · exfalso
      have h2:=HNL.out
      have h3:=HFT.out.2.1
      rw [h0] at h2; simp at h2; omega
    · injection h1 with h1 _ _
      exact ⟨g1,o1,h1,h5⟩
  subst hP
  have HCL:Hid (∀ j u,NW[j]?=some u → w5.cell? ((⟨gP,oP,none⟩:Addr).add j)=some u):=fun j u hu=>by rw [Lib.add_plain]; exact hcl j u hu
  have HOW:Hid (w5.ownsRow w.heap.size 9 1 (.slice (some ⟨g9,0,none⟩) m tot) m xs):=rown_mk HDS.out.2.1 HFT.out.2.2.1 HFT.out.2.2.2 (keep_row HCC.out.2.2 hb5) HCC.out.1 HCC.out.2.1
  have HS5:Hid (RS g t q kl kL kk g9 bx tot m lft kq xs w w5):=⟨⟨cur,keep_row HCC.out.2.2 hb5,HCC.out.1,HCC.out.2.1⟩,keep_row HRS.out.lst hb5,keep_row HRS.out.lf hb5,keep_row HRS.out.kx hb5,keep_row HRS.out.x0 hb5,keep_row HRS.out.x1 hb5,keep_row HRS.out.x2 hb5,bel_to HRS.out.bel hb5 (Nat.le_refl _)⟩
  clear v0 vf f0 ff k0 kf n0 n1 n2 nf hd hb5 hcl
  obtain ⟨v0,vf⟩:=row1 HS5.out.lst
  have hne1:kl ≠ kL:=fun e=>HDS.out.2.2.2.2.2.2.1 e.symm
  have hne2:kk ≠ kl:=HDS.out.2.2.2.2.2.2.2.1
  have hne3:kk ≠ kL:=HDS.out.2.2.2.2.2.2.2.2.1
  have hne4:kL ≠ kl:=HDS.out.2.2.2.2.2.2.1
  obtain ⟨W7R,hW7R⟩:∃ W7R:World → Prop,W7R=fun w7=>KA BB W w7∧w7.ownsRow w.heap.size 9 1 (.slice (some ⟨g9,0,none⟩) (m + mm) tot) (m + mm) (xs ++ NW)∧w7.heap[kL]?=some (.cells #[.slice (some ⟨g9,0,none⟩) m tot] 22)∧w7.heap[kl]?=some (.cells #[.int .i64 (lft:Int)] 3)∧w7.heap[kk]?=some (.cells #[.int .i64 (kq:Int)] 3)∧w7.heap[bx]?=some (.cells #[ptr g] 23)∧w7.heap[bx + 1]?=some (.cells #[.int .i64 0,.int .i64 (t:Int),.int .i64 (q:Int)] 65)∧w7.heap[bx + 1 + 1]?=some (.cells #[.bool false] 4)∧Below w.heap.size w w7:=⟨_,rfl⟩
  have HWR:Hid (∀ w7,w7.ownsRow w.heap.size 9 1 (.slice (some ⟨g9,0,none⟩) (m + mm) tot) (m + mm) (xs ++ NW) → w5.grownBy w7 (some g9) → w7.heap[kL]?=some (.cells #[.slice (some ⟨g9,0,none⟩) m tot] 22) → w7.heap[kl]?=some (.cells #[.int .i64 (lft:Int)] 3) → w7.heap[kk]?=some (.cells #[.int .i64 (kq:Int)] 3) → W7R w7):=fun w7 h1 h2 h3 h4 h5=>by
    rw [hW7R]
    have hb:=HBD.out
    refine ⟨(KA.of_below HB5.out).trans (KA.grown h2 HDS.out.2.2.2.2.2.2.2.2.2.2.2.2.2),h1,h3,h4,h5,(h2.block _ (row_lt HS5.out.x0) (fun x=>?_)).trans HS5.out.x0,(h2.block _ (row_lt HS5.out.x1) (fun x=>?_)).trans HS5.out.x1,(h2.block _ (row_lt HS5.out.x2) (fun x=>?_)).trans HS5.out.x2,HS5.out.bel.grown h2 HS5.out.bel.size (fun k hk=>?_)⟩
    · injection x with x; exact (hb bx (Or.inl rfl)).2.2.2 x
    · injection x with x; exact (hb (bx + 1) (Or.inr (Or.inl rfl))).2.2.2 x
    · injection x with x; exact (hb (bx + 1 + 1) (Or.inr (Or.inr rfl))).2.2.2 x
    · injection hk with hk; rw [← hk]; exact HDS.out.2.1
  have HFIN:Hid (∀ (w7:World) (kv:Nat) (W8:World),W7R w7 → (W8=(w7.setCell ⟨kL,0,none⟩ (.slice (some ⟨g9,0,none⟩) (m + mm) tot)).setCell ⟨kl,0,none⟩ (.int .i64 (l2:Int))∧kv=kq ∨ W8=((w7.setCell ⟨kL,0,none⟩ (.slice (some ⟨g9,0,none⟩) (m + mm) tot)).setCell ⟨kl,0,none⟩ (.int .i64 (l2:Int))).setCell ⟨kk,0,none⟩ (.int .i64 0)∧kv=0) → KA BB W W8∧RS g t q kl kL kk g9 bx tot (m + mm) l2 kv (xs ++ NW) w W8):=by
    intro w7 kv W8 h hW
    rw [hW7R] at h
    obtain ⟨a1,a2,a3,a4,a5,a6,a7,a8,a9⟩:=h
    obtain ⟨d1,d2,d3,d4,d5,d6,d7,d8,d9,d10,d11,d12,d13,d14⟩:=HDS.out
    have hb:=HBD.out
    obtain ⟨b1,b2,b3,b4⟩:=hb bx (Or.inl rfl)
    obtain ⟨b5,b6,b7,b8⟩:=hb (bx + 1) (Or.inr (Or.inl rfl))
    obtain ⟨b9,b10,b11,b12⟩:=hb (bx + 1 + 1) (Or.inr (Or.inr rfl))
    obtain ⟨cur',q1,q2,q3⟩:=rown_form a2
    have hA:=(a1.trans (KA.setCell w7 ⟨kL,0,none⟩ (.slice (some ⟨g9,0,none⟩) (m + mm) tot) d12)).trans (KA.setCell _ ⟨kl,0,none⟩ (.int .i64 (l2:Int)) d11)
    have hR:RS g t q kl kL kk g9 bx tot (m + mm) l2 kq (xs ++ NW) w ((w7.setCell ⟨kL,0,none⟩ (.slice (some ⟨g9,0,none⟩) (m + mm) tot)).setCell ⟨kl,0,none⟩ (.int .i64 (l2:Int))):=by
      refine ⟨⟨cur',?_,q2,q3⟩,?_,?_,?_,?_,?_,?_,?_⟩
      · exact (heap_setCell_other _ ⟨kl,0,none⟩ _ _ (show g9 ≠ kl from d6)).trans ((heap_setCell_other _ ⟨kL,0,none⟩ _ _ (show g9 ≠ kL from d5)).trans q1)
      · rw [heap_setCell_other _ ⟨kl,0,none⟩ _ _ (show kL ≠ kl from d7),heap_setCell_same _ _ _ _ _ _ a3]; rfl
      · rw [heap_setCell_same _ _ _ _ _ _ ((heap_setCell_other _ ⟨kL,0,none⟩ _ _ (show kl ≠ kL from hne1)).trans a4)]; rfl
      · exact (heap_setCell_other _ ⟨kl,0,none⟩ _ _ (show kk ≠ kl from d8)).trans ((heap_setCell_other _ ⟨kL,0,none⟩ _ _ (show kk ≠ kL from d9)).trans a5)
      · exact (heap_setCell_other _ ⟨kl,0,none⟩ _ _ (show bx ≠ kl from b1)).trans ((heap_setCell_other _ ⟨kL,0,none⟩ _ _ (show bx ≠ kL from b2)).trans a6)
      · exact (heap_setCell_other _ ⟨kl,0,none⟩ _ _ (show bx + 1 ≠ kl from b5)).trans ((heap_setCell_other _ ⟨kL,0,none⟩ _ _ (show bx + 1 ≠ kL from b6)).trans a7)
      · exact (heap_setCell_other _ ⟨kl,0,none⟩ _ _ (show bx + 1 + 1 ≠ kl from b9)).trans ((heap_setCell_other _ ⟨kL,0,none⟩ _ _ (show bx + 1 + 1 ≠ kL from b10)).trans a8)
      · exact (a9.setCell (p:=⟨kL,0,none⟩) d3 _).setCell (p:=⟨kl,0,none⟩) d1 _
    rcases hW with ⟨rfl,rfl⟩ | ⟨rfl,rfl⟩
    · exact ⟨hA,hR⟩
    · refine ⟨hA.trans (KA.setCell _ ⟨kk,0,none⟩ _ d13),⟨cur',(heap_setCell_other _ ⟨kk,0,none⟩ _ _ (show g9 ≠ kk from fun e=>d10 e.symm)).trans ?_,q2,q3⟩,(heap_setCell_other _ ⟨kk,0,none⟩ _ _ (show kL ≠ kk from fun e=>d9 e.symm)).trans hR.lst,(heap_setCell_other _ ⟨kk,0,none⟩ _ _ (show kl ≠ kk from fun e=>d8 e.symm)).trans hR.lf,?_,(heap_setCell_other _ ⟨kk,0,none⟩ _ _ (show bx ≠ kk from b3)).trans hR.x0,(heap_setCell_other _ ⟨kk,0,none⟩ _ _ (show bx + 1 ≠ kk from b7)).trans hR.x1,(heap_setCell_other _ ⟨kk,0,none⟩ _ _ (show bx + 1 + 1 ≠ kk from b11)).trans hR.x2,hR.bel.setCell (p:=⟨kk,0,none⟩) d4 _⟩
      · exact (heap_setCell_other _ ⟨kl,0,none⟩ _ _ (show g9 ≠ kl from d6)).trans ((heap_setCell_other _ ⟨kL,0,none⟩ _ _ (show g9 ≠ kL from d5)).trans q1)
      · rw [heap_setCell_same _ _ _ _ _ _ hR.kx]; rfl
  clear hW7R
  by_cases hl0:l2=0
  · have hq0:((l2:Int) == 0)=true:=by rw [hl0]; rfl
    have hq1:(l2:Int)=0:=by omega
    gi_wp2_with (gi_at_builtin; refine wpListIn_append_fits _ rfl _ _ 22 rfl w.heap.size 9 i9 1 Tryz.underlying22 hi9 hz1 g9 m tot xs rfl HOW.out ⟨gP,oP,none⟩ mm cc NW rfl (by rw [HNL.out]; omega) HCL.out HNO.out HFT.out.1 ?_; intro w7 hown7 hgrow7; have hK7:=(hgrow7.block kL (row_lt HS5.out.lst) (fun x=>by injection x with x; exact HDS.out.2.2.2.2.1 x.symm)).trans HS5.out.lst; have hL7:=(hgrow7.block kl (row_lt HS5.out.lf) (fun x=>by injection x with x; exact HDS.out.2.2.2.2.2.1 x.symm)).trans HS5.out.lf; have hQ7:=(hgrow7.block kk (row_lt HS5.out.kx) (fun x=>by injection x with x; exact HDS.out.2.2.2.2.2.2.2.2.2.1 x)).trans HS5.out.kx; have HR7:Hid (W7R w7):=HWR.out w7 hown7 hgrow7 hK7 hL7 hQ7; clear v0 vf; obtain ⟨v7,vf7⟩:=row1 hK7; obtain ⟨f7,ff7⟩:=row1 hL7; obtain ⟨q7,qf7⟩:=row1 hQ7; clear hown7 hgrow7 hK7 hL7 hQ7)
    obtain ⟨h1,h2⟩:=HFIN.out w7 kq ((w7.setCell ⟨kL,0,none⟩ (.slice (some ⟨g9,0,none⟩) (m + mm) tot)).setCell ⟨kl,0,none⟩ (.int .i64 0)) HR7.out (Or.inl ⟨by rw [hq1],rfl⟩)
    exact ⟨h1,HX.out hl0 _ h2⟩
  · have hq0:((l2:Int) == 0)=false:=by simpa using hl0
    have hq1:¬ ((l2:Int)=0):=by omega
    gi_wp2_with (gi_at_builtin; refine wpListIn_append_fits _ rfl _ _ 22 rfl w.heap.size 9 i9 1 Tryz.underlying22 hi9 hz1 g9 m tot xs rfl HOW.out ⟨gP,oP,none⟩ mm cc NW rfl (by rw [HNL.out]; omega) HCL.out HNO.out HFT.out.1 ?_; intro w7 hown7 hgrow7; have hK7:=(hgrow7.block kL (row_lt HS5.out.lst) (fun x=>by injection x with x; exact HDS.out.2.2.2.2.1 x.symm)).trans HS5.out.lst; have hL7:=(hgrow7.block kl (row_lt HS5.out.lf) (fun x=>by injection x with x; exact HDS.out.2.2.2.2.2.1 x.symm)).trans HS5.out.lf; have hQ7:=(hgrow7.block kk (row_lt HS5.out.kx) (fun x=>by injection x with x; exact HDS.out.2.2.2.2.2.2.2.2.2.1 x)).trans HS5.out.kx; have HR7:Hid (W7R w7):=HWR.out w7 hown7 hgrow7 hK7 hL7 hQ7; clear v0 vf; obtain ⟨v7,vf7⟩:=row1 hK7; obtain ⟨f7,ff7⟩:=row1 hL7; obtain ⟨q7,qf7⟩:=row1 hQ7; clear hown7 hgrow7 hK7 hL7 hQ7)
    obtain ⟨h1,h2⟩:=HFIN.out w7 0 _ HR7.out (Or.inr ⟨rfl,rfl⟩)
    exact ⟨h1,HN.out hl0 _ h2⟩
end
end Go.Proofs.YtijambehfobopaaGreatDoor
