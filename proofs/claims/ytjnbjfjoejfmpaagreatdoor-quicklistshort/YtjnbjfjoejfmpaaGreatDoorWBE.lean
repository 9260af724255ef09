import Derived.Test.YtjnbjfjoejfmpaaGreatDoorWAS
import Derived.Test.YtjnbjfjoejfmpaaGreatDoorWAT
namespace Go.Proofs.YtjnbjfjoejfmpaaGreatDoor
open Go.RowKit
set_option linter.unusedVariables false
set_option linter.unusedSimpArgs false
def fndF (L:List ByteArray) (s:ByteArray) (st:Int):Nat → Int → Option Int
  | 0,_=>none
  | f + 1,i=>if 0 ≤ i∧i < (L.length:Int) then (if L[i.toNat]?=some s then some i else fndF L s st f (i + st)) else none
def fndM (len:Nat) (st i:Int):Nat:=if 0 < st then ((len:Int) - i).toNat else (i + 1).toNat
theorem fndF_out (L:List ByteArray) (s:ByteArray) (st:Int) (f:Nat) (i:Int) (h:¬ (0 ≤ i∧i < (L.length:Int))):fndF L s st f i=none:=by
  cases f with
  | zero=>rfl
  | succ f=>unfold fndF; rw [if_neg h]
theorem fndF_more (L:List ByteArray) (s:ByteArray) (st:Int) (hst:st ≠ 0):∀ (f:Nat) (i:Int),fndM L.length st i ≤ f → fndF L s st f i=fndF L s st (f + 1) i
  | 0,i,h=>by
    rw [fndF_out L s st 1 i]; · rfl
    unfold fndM at h; split at h <;> omega
  | f + 1,i,h=>by
    by_cases hi:0 ≤ i∧i < (L.length:Int)
    · unfold fndF
      rw [if_pos hi,if_pos hi]
      split
      · rfl
      · refine fndF_more L s st hst f (i + st) ?_
        unfold fndM at h ⊢; split at h <;> simp [*] <;> omega
    · rw [fndF_out _ _ _ _ _ hi,fndF_out _ _ _ _ _ hi]
theorem fndF_ge (L:List ByteArray) (s:ByteArray) (st:Int) (hst:st ≠ 0) (i:Int) (f:Nat) (h:fndM L.length st i ≤ f):∀ k,fndF L s st (f + k) i=fndF L s st f i
  | 0=>rfl
  | k + 1=>by rw [← Nat.add_assoc,← fndF_more L s st hst (f + k) i (by omega)]; exact fndF_ge L s st hst i f h k
def fndQ (L:List ByteArray) (s:ByteArray) (fr st:Int):Option Int:=if st=0 then none else fndF L s st (fndM L.length st fr) fr
theorem fndQ_zero (L:List ByteArray) (s:ByteArray) (fr:Int):fndQ L s fr 0=none:=if_pos rfl
theorem fndQ_out (L:List ByteArray) (s:ByteArray) (st i:Int) (h:¬ (0 ≤ i∧i < (L.length:Int))):fndQ L s i st=none:=by
  unfold fndQ; split
  · rfl
  · exact fndF_out _ _ _ _ _ h
theorem fndQ_hit (L:List ByteArray) (s:ByteArray) (st:Int) (hst:st ≠ 0) (i:Nat) (hi:i < L.length) (h:L[i]=s):fndQ L s (i:Int) st=some (i:Int):=by
  unfold fndQ; rw [if_neg hst]
  obtain ⟨f,hf⟩:∃ f,fndM L.length st (i:Int)=f + 1:=⟨fndM L.length st (i:Int) - 1,by unfold fndM; split <;> omega⟩
  rw [hf,fndF,if_pos ⟨by omega,by omega⟩,if_pos (by simp [hi,h])]
theorem fndQ_miss (L:List ByteArray) (s:ByteArray) (st:Int) (hst:st ≠ 0) (i:Nat) (hi:i < L.length) (h:L[i] ≠ s):fndQ L s (i:Int) st=fndQ L s ((i:Int) + st) st:=by
  unfold fndQ; rw [if_neg hst,if_neg hst]
  obtain ⟨f,hf⟩:∃ f,fndM L.length st (i:Int)=f + 1:=⟨fndM L.length st (i:Int) - 1,by unfold fndM; split <;> omega⟩
  rw [hf,fndF,if_pos ⟨by omega,by omega⟩,if_neg (by simp [hi,h])]
  have hm:fndM L.length st ((i:Int) + st) ≤ f:=by unfold fndM at hf ⊢; split at hf <;> simp [*] <;> omega
  have:=fndF_ge L s st hst ((i:Int) + st) _ (Nat.le_refl _) (f - fndM L.length st ((i:Int) + st))
  rw [← this]; congr 1; omega
def fndV (o:Option Int):Value:=match o with
  | some i=>.tuple #[.int .i64 i,.bool true]
  | none=>.tuple #[.int .i64 0,.bool false]
section
variable {ok:Nat → Prop}
set_option maxHeartbeats 2000000 in
set_option maxRecDepth 100000 in
theorem rfind_any (E B:Nat) (v:Value) (N:QM.NL) (s:ByteArray) (fr st:Int) (hst:-9223372036854775808 ≤ st∧st ≤ 9223372036854775807) (hl:N.flatten.length ≤ 1000) (hn:N.length ≤ 1000) (w:World) (h:RL ok w v N) :
    Calls Tryz.prog 46 #[rlV E B v,.string s,.int .i64 fr,.int .i64 st] w fun e w'=>e=.returned (fndV (fndQ N.flatten s fr st))∧Below w.heap.size w w':=by
  have HE:Hid (∀ W,Below w.heap.size w W → Calls Tryz.prog 30 #[rlV E B v] W fun e w'=>∃ v',e=.returned v'∧w'.ownsRow W.heap.size 9 1 v' N.flatten.length (strV N.flatten)∧Below W.heap.size W w'):=fun W hW=>elems_any E B v N (by omega) (by omega) W (h.on hW)
  obtain ⟨P,c,rfl⟩:=h.form
  generalize N.flatten=FL at *
  clear h
  have HQ0:Hid (st=0 → fndQ FL s fr st=none):=fun e=>by subst e; exact fndQ_zero _ _ _
  have HQO:Hid (∀ i,¬ (0 ≤ i∧i < (FL.length:Int)) → fndQ FL s i st=none):=fun i hi=>fndQ_out _ _ _ _ hi
  have HQH:Hid (∀ (i:Nat) (hi:i < FL.length),st ≠ 0 → FL[i]=s → fndQ FL s (i:Int) st=some (i:Int)):=fun i hi h0 he=>fndQ_hit _ _ _ h0 i hi he
  have HQM:Hid (∀ (i:Nat) (hi:i < FL.length),st ≠ 0 → FL[i] ≠ s → fndQ FL s (i:Int) st=fndQ FL s ((i:Int) + st) st):=fun i hi h0 he=>fndQ_miss _ _ _ h0 i hi he
  obtain ⟨FQ,hFQ⟩:∃ FQ:Int → Option Int,∀ i,fndQ FL s i st=FQ i:=⟨_,fun _=>rfl⟩
  rw [hFQ]
  have HQ0:Hid (st=0 → FQ fr=none):=fun e=>by rw [← hFQ]; exact HQ0.out e
  have HQO:Hid (∀ i,¬ (0 ≤ i∧i < (FL.length:Int)) → FQ i=none):=fun i hi=>by rw [← hFQ]; exact HQO.out i hi
  have HQH:Hid (∀ (i:Nat) (hi:i < FL.length),st ≠ 0 → FL[i]=s → FQ (i:Int)=some (i:Int)):=fun i hi h0 he=>by rw [← hFQ]; exact HQH.out i hi h0 he
  have HQM:Hid (∀ (i:Nat) (hi:i < FL.length),st ≠ 0 → FL[i] ≠ s → FQ (i:Int)=FQ ((i:Int) + st)):=fun i hi h0 he=>by rw [← hFQ,← hFQ]; exact HQM.out i hi h0 he
  clear hFQ
  go_enter Tryz.func46,Tryz.ntmps46
  go_wp2_with fail
  refine (show Calls _ _ _ _ _ from HE.out _ ?b1).mono ?_
  case b1=>first | exact Below.refl _ _ | exact (Below.refl _ _).alloc (Nat.le_refl _) _
  rintro e w1 ⟨v',rfl,ho,hb⟩
  have HB1:Hid (Below w.heap.size w w1):=by first | exact hb | exact bel_to ((Below.refl _ w).alloc (Nat.le_refl _) _) hb (Nat.le_refl _)
  have hd:=DRow.of_own (ok:=fun _=>True) ho (by simp) (fun _ _=>trivial)
  have HD:Hid (DRow (fun _=>True) w1 v' (strV FL)):=hd
  obtain ⟨P8,k8,hkf⟩:=hd.sform
  subst hkf
  clear ho hb hd
  go_wp2
  go_loopw [11] (fun ci wr=>∃ i:Int,ci=.int .i64 i∧FQ i=FQ fr∧wr=w1) (fun ci _=>fndM FL.length st (intOf ci))
  case atStart=>exact ⟨fr,rfl,rfl,rfl⟩
  case round =>
    obtain ⟨i,rfl,hq,rfl⟩:=hrel
    have HQ:Hid _:=hq
    clear hq
    by_cases hs0:st=0
    · have hq:=HQ0.out hs0
      go_wp2
      go_returns
      exact ⟨by rw [hq]; rfl,HB1.out⟩
    have hne:(st != 0)=true:=by simpa using hs0
    by_cases hi0:0 ≤ i
    · by_cases hi1:i < (FL.length:Int)
      · obtain ⟨n,hn⟩:∃ n:Nat,i=(n:Int):=⟨i.toNat,by omega⟩
        subst hn
        have hnl:n < FL.length:=by omega
        obtain ⟨g,o,cc,hv,hc⟩:=DRow.at_ (show DRow (fun _=>True) wr (.slice P8 FL.length k8) (strV FL) from HD.out) (j:=n) (by simpa using hnl)
        injection hv with e1 e2 e3
        subst e1 e3
        clear e2
        have hc':wr.cell? ⟨g,o + n,none⟩=some (.string FL[n]):=by rw [hc]; simp
        by_cases heq:FL[n]=s
        · have hh:=HQH.out n hnl hs0 heq
          rw [heq] at hc'
          have hsame:(s.toList == s.toList)=true:=by simp
          have HH:Hid (FQ fr=some (n:Int)):=by show _=_; rw [← HQ.out,hh]
          clear hc hh
          go_wp2
          go_returns
          exact ⟨by rw [HH.out]; rfl,HB1.out⟩
        · have hother:(FL[n].toList == s.toList)=false:=str_other (fun e=>heq (ByteArray.ext (Array.toList_inj.1 e)))
          have HM:Hid (FQ (n:Int)=FQ ((n:Int) + st)):=HQM.out n hnl hs0 heq
          generalize FL[n]=TX at *
          have hng:IntKind.i64.wrap (-(FL.length:Int))=-(FL.length:Int):=by rw [IntKind.wrap_i64] <;> omega
          by_cases hbig:(FL.length:Int) < st ∨ st < -(FL.length:Int)
          · have HN:Hid (FQ fr=none):=by show _=_; rw [← HQ.out,HM.out]; exact HQO.out _ (by omega)
            clear hc
            by_cases hb1:(FL.length:Int) < st
            · go_wp2
              go_returns
              exact ⟨by rw [HN.out]; rfl,HB1.out⟩
            · have hb2:st < -(FL.length:Int):=by omega
              go_wp2
              go_returns
              exact ⟨by rw [HN.out]; rfl,HB1.out⟩
          · have hb1:¬ ((FL.length:Int) < st):=by omega
            have hb2:¬ (st < -(FL.length:Int)):=by omega
            have hwa:IntKind.i64.wrap ((n:Int) + st)=(n:Int) + st:=by rw [IntKind.wrap_i64] <;> omega
            clear hc hbig
            go_wp2
            refine ⟨⟨(n:Int) + st,by first | rfl | rw [hwa],by rw [← HM.out]; exact HQ.out,by first | rfl | trivial⟩,?_⟩
            simp only [intOf,fndM]
            split <;> omega
      · have HN:Hid (FQ fr=none):=by show _=_; rw [← HQ.out]; exact HQO.out _ (by omega)
        go_wp2
        go_returns
        exact ⟨by rw [HN.out]; rfl,HB1.out⟩
    · have HN:Hid (FQ fr=none):=by show _=_; rw [← HQ.out]; exact HQO.out _ (by omega)
      go_wp2
      go_returns
      exact ⟨by rw [HN.out]; rfl,HB1.out⟩
end
end Go.Proofs.YtjnbjfjoejfmpaaGreatDoor
namespace Go.Proofs.YtjnbjfjoejfmpaaGreatDoor
open Go.RowKit Go.Shelf
set_option linter.unusedVariables false
set_option linter.unusedSimpArgs false
attribute [local go_sem] Oper.semAt_some
structure SK (g t q ks ki kst r0 r1 kb kk kd bx:Nat) (s:ByteArray) (i st:Int) (back:Bool) (k sd:Nat) (w W:World):Prop where
  hs:W.heap[ks]?=some (.cells #[.string s] 9)
  hi:W.heap[ki]?=some (.cells #[.int .i64 i] 3)
  hst:W.heap[kst]?=some (.cells #[.int .i64 st] 3)
  h0:W.heap[r0]?=some (.cells #[.int .i64 0] 3)
  h1:W.heap[r1]?=some (.cells #[.bool false] 4)
  hb:W.heap[kb]?=some (.cells #[.bool back] 4)
  hk:W.heap[kk]?=some (.cells #[.int .i64 (k:Int)] 3)
  hd:W.heap[kd]?=some (.cells #[.int .i64 (sd:Int)] 3)
  x0:W.heap[bx]?=some (.cells #[ptr g] 23)
  x1:W.heap[bx + 1]?=some (.cells #[.int .i64 0,.int .i64 (t:Int),.int .i64 (q:Int)] 67)
  x2:W.heap[bx + 1 + 1]?=some (.cells #[.bool back] 4)
  bel:Below w.heap.size w W
theorem SK.on {g t q ks ki kst r0 r1 kb kk kd bx:Nat} {s:ByteArray} {i st:Int} {back:Bool} {k sd:Nat} {w W W':World} (h:SK g t q ks ki kst r0 r1 kb kk kd bx s i st back k sd w W) (hb:Below W.heap.size W W'):SK g t q ks ki kst r0 r1 kb kk kd bx s i st back k sd w W':=
  ⟨keep_row h.hs hb,keep_row h.hi hb,keep_row h.hst hb,keep_row h.h0 hb,keep_row h.h1 hb,keep_row h.hb hb,keep_row h.hk hb,keep_row h.hd hb,keep_row h.x0 hb,keep_row h.x1 hb,keep_row h.x2 hb,bel_to h.bel hb (Nat.le_refl _)⟩
theorem SK.setI {g t q ks ki kst r0 r1 kb kk kd bx:Nat} {s:ByteArray} {i st:Int} {back:Bool} {k sd:Nat} {w W:World} (h:SK g t q ks ki kst r0 r1 kb kk kd bx s i st back k sd w W) (hord:ks < ki∧ki < kst∧kst < r0∧r0 < r1∧r1 < kb∧kb < kk∧kb < kd∧kk ≠ kd∧kk < bx∧kd < bx∧w.heap.size ≤ ks) (i':Int):SK g t q ks ki kst r0 r1 kb kk kd bx s i' st back k sd w (W.setCell ⟨ki,0,none⟩ (.int .i64 i')):=
  ⟨(heap_setCell_other _ ⟨ki,0,none⟩ (ks) _ (show ks ≠ ki by omega)).trans h.hs,by rw [heap_setCell_same _ _ _ _ _ _ h.hi]; rfl,(heap_setCell_other _ ⟨ki,0,none⟩ (kst) _ (show kst ≠ ki by omega)).trans h.hst,(heap_setCell_other _ ⟨ki,0,none⟩ (r0) _ (show r0 ≠ ki by omega)).trans h.h0,(heap_setCell_other _ ⟨ki,0,none⟩ (r1) _ (show r1 ≠ ki by omega)).trans h.h1,(heap_setCell_other _ ⟨ki,0,none⟩ (kb) _ (show kb ≠ ki by omega)).trans h.hb,(heap_setCell_other _ ⟨ki,0,none⟩ (kk) _ (show kk ≠ ki by omega)).trans h.hk,(heap_setCell_other _ ⟨ki,0,none⟩ (kd) _ (show kd ≠ ki by omega)).trans h.hd,(heap_setCell_other _ ⟨ki,0,none⟩ (bx) _ (show bx ≠ ki by omega)).trans h.x0,(heap_setCell_other _ ⟨ki,0,none⟩ (bx + 1) _ (show bx + 1 ≠ ki by omega)).trans h.x1,(heap_setCell_other _ ⟨ki,0,none⟩ (bx + 1 + 1) _ (show bx + 1 + 1 ≠ ki by omega)).trans h.x2,h.bel.setCell (p:=⟨ki,0,none⟩) (show w.heap.size ≤ ki by omega) _⟩
theorem SK.setK {g t q ks ki kst r0 r1 kb kk kd bx:Nat} {s:ByteArray} {i st:Int} {back:Bool} {k sd:Nat} {w W:World} (h:SK g t q ks ki kst r0 r1 kb kk kd bx s i st back k sd w W) (hord:ks < ki∧ki < kst∧kst < r0∧r0 < r1∧r1 < kb∧kb < kk∧kb < kd∧kk ≠ kd∧kk < bx∧kd < bx∧w.heap.size ≤ ks) (k':Nat):SK g t q ks ki kst r0 r1 kb kk kd bx s i st back k' sd w (W.setCell ⟨kk,0,none⟩ (.int .i64 (k':Int))):=
  ⟨(heap_setCell_other _ ⟨kk,0,none⟩ (ks) _ (show ks ≠ kk by omega)).trans h.hs,(heap_setCell_other _ ⟨kk,0,none⟩ (ki) _ (show ki ≠ kk by omega)).trans h.hi,(heap_setCell_other _ ⟨kk,0,none⟩ (kst) _ (show kst ≠ kk by omega)).trans h.hst,(heap_setCell_other _ ⟨kk,0,none⟩ (r0) _ (show r0 ≠ kk by omega)).trans h.h0,(heap_setCell_other _ ⟨kk,0,none⟩ (r1) _ (show r1 ≠ kk by omega)).trans h.h1,(heap_setCell_other _ ⟨kk,0,none⟩ (kb) _ (show kb ≠ kk by omega)).trans h.hb,by rw [heap_setCell_same _ _ _ _ _ _ h.hk]; rfl,(heap_setCell_other _ ⟨kk,0,none⟩ (kd) _ (show kd ≠ kk by omega)).trans h.hd,(heap_setCell_other _ ⟨kk,0,none⟩ (bx) _ (show bx ≠ kk by omega)).trans h.x0,(heap_setCell_other _ ⟨kk,0,none⟩ (bx + 1) _ (show bx + 1 ≠ kk by omega)).trans h.x1,(heap_setCell_other _ ⟨kk,0,none⟩ (bx + 1 + 1) _ (show bx + 1 + 1 ≠ kk by omega)).trans h.x2,h.bel.setCell (p:=⟨kk,0,none⟩) (show w.heap.size ≤ kk by omega) _⟩
def msK (kk LX:Nat) (wr:World):Nat:=match wr.cell? ⟨kk,0,none⟩ with
  | some (.int _ i)=>((LX:Int) - i).toNat
  | _=>0
theorem msK_at {kk LX k T:Nat} {wr:World} (h:wr.heap[kk]?=some (.cells #[.int .i64 (k:Int)] T)):msK kk LX wr=LX - k:=by
  unfold msK; simp only [(row1 h).1]; omega
set_option maxHeartbeats 4000000 in
set_option maxRecDepth 100000 in
theorem seek_body {α:Type} (n ll BB g t q ks ki kst r0 r1 kb kk kd bx kn LX sd k:Nat) (i st:Int) (back:Bool) (s PK:ByteArray) (LG:Bool) (V:List ByteArray) (w W:World) (I:List α → World → Prop) (Ix:Code → List α → World → Prop) (Ip:World → Prop) (ys:List α) (FQ:Int → Option Int) (FR:Option Int) (PO:Nat → Int) (u0 u1 u2 u3 u4 u10 u15 u16 u17 u18 u19 u20 u21 u22 u23 u24 u25 u26 u27 u28 u29 u30 u31 u32 u33 u34 u35 u36 u37 u38 u39 u40 u41 u42 u43 u44 u45 u46 u47 u48 u49 u50 u51 u52 u53 u54 u55 u56 u57 u58 u59 u60 u61 u62 u63 u64 u65 u66 u67:Value)
    (hSK:SK g t q ks ki kst r0 r1 kb kk kd bx s i st back k sd w W) (hord:ks < ki∧ki < kst∧kst < r0∧r0 < r1∧r1 < kb∧kb < kk∧kb < kd∧kk ≠ kd∧kk < bx∧kd < bx∧w.heap.size ≤ ks) (hB1:bx + 1 + 1 < BB) (hB2:BB ≤ kn) (hB3:BB ≤ W.heap.size) (hi:i=PO k) (hfq:FQ i=FR)
    (hrow:W.heap[kn]?=some (.cells #[.string PK,.int .i64 (LX:Int),.bool LG] 57))
    (hVA:Calls Tryz.prog 56 #[.agg #[.string PK,.int .i64 (LX:Int),.bool LG],.bool back] W fun e w'=>(∃ gv,e=.returned (.slice (some ⟨gv,0,none⟩) LX LX)∧w'.ownsRow W.heap.size 9 1 (.slice (some ⟨gv,0,none⟩) LX LX) LX (strV V))∧Below W.heap.size W w')
    (hVL:V.length=LX) (hLX:LX ≤ 4096) (hsd:0 < sd∧sd ≤ 1000) (hk:k ≤ 10000)
    (hPO:∀ k,k < LX → IntKind.i64.wrap (PO k + st)=PO (k + sd))
    (hhit:∀ k (h:k < V.length),V[k]=s → FQ (PO k)=some (PO k)) (hmis:∀ k (h:k < V.length),V[k] ≠ s → FQ (PO k)=FQ (PO (k + sd)))
    (hN:∀ (k':Nat) (W':World),LX ≤ k' → (k' ≤ k ∨ k' ≤ LX + sd) → FQ (PO k')=FR → SK g t q ks ki kst r0 r1 kb kk kd bx s (PO k') st back (k' - LX) sd w W' → BB ≤ W'.heap.size → I ys W')
    (hX:∀ (i':Int) (W':World),FR=some i' → W'.heap[r0]?=some (.cells #[.int .i64 i'] 3) → W'.heap[r1]?=some (.cells #[.bool true] 4) → Below w.heap.size w W' → Ix .ret ys W') :
    (cRg (cBk (cR (cL (cR (cR (cR (cR ((Tryz.f86).body.getD .skip))))))))).wpIn (Fence.wide.inRound ll) n Tryz.prog (pPost BB pch I Ix Ip ys W) { tmps:=#[u0,u1,u2,u3,u4,ptr ks,ptr ki,ptr kst,ptr r0,ptr r1,u10,ptr kb,ptr kk,ptr kd,ptr kn,u15,u16,u17,u18,u19,u20,u21,u22,u23,u24,u25,u26,u27,u28,u29,u30,u31,u32,u33,u34,u35,u36,u37,u38,u39,u40,u41,u42,u43,u44,u45,u46,u47,u48,u49,u50,u51,u52,u53,u54,u55,u56,u57,u58,u59,u60,u61,u62,u63,u64,u65,u66,u67],defers:=[] } W:=by
  subst hi
  have HSK:Hid (SK g t q ks ki kst r0 r1 kb kk kd bx s (PO k) st back k sd w W):=hSK
  have HOR:Hid (ks < ki∧ki < kst∧kst < r0∧r0 < r1∧r1 < kb∧kb < kk∧kb < kd∧kk ≠ kd∧kk < bx∧kd < bx∧w.heap.size ≤ ks):=hord
  have HVA:Hid _:=hVA
  have HB1:Hid (bx + 1 + 1 < BB):=hB1
  have HB2:Hid (BB ≤ kn):=hB2
  have HB3:Hid (BB ≤ W.heap.size):=hB3
  have HFQ:Hid (FQ (PO k)=FR):=hfq
  have HPO:Hid _:=hPO
  have HHI:Hid _:=hhit
  have HMI:Hid _:=hmis
  have HN:Hid _:=hN
  have HX:Hid _:=hX
  have HVL:Hid (V.length=LX):=hVL
  have HRO:Hid (W.heap[kn]?=some (.cells #[.string PK,.int .i64 (LX:Int),.bool LG] 57)):=hrow
  have HBK:Hid (LX ≤ 4096∧0 < sd∧sd ≤ 1000∧k ≤ 10000):=⟨hLX,hsd.1,hsd.2,hk⟩
  obtain ⟨k0,kf⟩:=row1 hSK.hk
  obtain ⟨n0,n1,n2,nf⟩:=row3 hrow
  clear hSK hord hVA hB1 hB2 hB3 hfq hPO hhit hmis hN hX hVL hrow hLX hsd hk
  simp only [cR,cL,cBk,cRg,Tryz.f86,Option.getD_some]
  by_cases hlt:k < LX
  · have hlt1:(k:Int) < (LX:Int):=by omega
    obtain ⟨b0,bf⟩:=row1 HSK.out.hb
    gi_wp2_with fail
    refine ⟨trivial,fun h=>(by cases h),(CallsIn.inRound ll (callsIn_wide.2 HVA.out)).mono ?_⟩
    rintro e w5 ⟨⟨gv,rfl,ho⟩,hb5⟩
    have HB5:Hid (Below W.heap.size W w5):=hb5
    have HGV:Hid (W.heap.size ≤ gv):=(World.ownsRow.lt ho gv rfl).1
    have HCV:Hid (∀ j (h:j < V.length),w5.cell? ⟨gv,j,none⟩=some (.string V[j])):=fun j h=>by
      have:=World.ownsRow.cells ho (g:=gv) rfl j (.string V[j]) (by simp [strV,h])
      rw [Lib.add_plain] at this
      simpa using this
    clear k0 kf n0 n1 n2 nf b0 bf ho hb5
    gi_wp2
    gi_loopw [47] (fun _ wr=>∃ k':Nat,(k' ≤ k ∨ k' ≤ LX + sd)∧SK g t q ks ki kst r0 r1 kb kk kd bx s (PO k') st back k' sd w wr∧FQ (PO k')=FR∧wr.heap[kn]?=some (.cells #[.string PK,.int .i64 (LX:Int),.bool LG] 57)∧(∀ j (h:j < V.length),wr.cell? ⟨gv,j,none⟩=some (.string V[j]))∧KA BB W wr) (fun _ wr=>msK kk LX wr)
    case atStart=>exact ⟨k,Or.inl (Nat.le_refl _),HSK.out.on HB5.out,HFQ.out,keep_row HRO.out HB5.out,HCV.out,KA.of_below HB5.out⟩
    case round =>
      obtain ⟨k',hk',hS,hq,hnr,hcv,hka⟩:=hrel
      have HS:Hid (SK g t q ks ki kst r0 r1 kb kk kd bx s (PO k') st back k' sd w wr):=hS
      have HQ:Hid (FQ (PO k')=FR):=hq
      have HNR:Hid (wr.heap[kn]?=some (.cells #[.string PK,.int .i64 (LX:Int),.bool LG] 57)):=hnr
      have HCW:Hid (∀ j (h:j < V.length),wr.cell? ⟨gv,j,none⟩=some (.string V[j])):=hcv
      have HKA:Hid (KA BB W wr):=hka
      have HMS:Hid (msK kk LX wr=LX - k'):=msK_at hS.hk
      obtain ⟨k0,kf⟩:=row1 hS.hk
      obtain ⟨n0,n1,n2,nf⟩:=row3 hnr
      obtain ⟨s0,sf⟩:=row1 hS.hs
      have HLT:Hid (ki < BB∧kk < BB∧r0 < BB∧r1 < BB∧kn ≠ ki∧kn ≠ kk∧gv ≠ ki∧gv ≠ kk):=by
        have h1:=HOR.out; have h2:=HB1.out; have h3:=HB2.out; have h4:=HB3.out; have h5:=HGV.out
        exact ⟨by omega,by omega,by omega,by omega,by omega,by omega,by omega,by omega⟩
      clear hS hq hnr hcv hka
      by_cases hlt2:k' < LX
      · have hj0:(0:Int) ≤ (k':Int):=by omega
        have hj1:(k':Int) < (LX:Int):=by omega
        have hVk:k' < V.length:=by rw [HVL.out]; exact hlt2
        have hc1:=HCW.out k' hVk
        have hpo:=HPO.out k' hlt2
        have hks:IntKind.i64.wrap ((k':Int) + (sd:Int))=((k' + sd:Nat):Int):=by have:=HBK.out; rw [IntKind.wrap_i64] <;> omega
        have HSD:Hid (SK g t q ks ki kst r0 r1 kb kk kd bx s (PO k') st back k' sd w wr.drew):=HS.out.on (Below.refl _ _).drew
        by_cases heq:V[k']=s
        · have HHT:Hid (FR=some (PO k')):=by show _=_; rw [← HQ.out]; exact HHI.out k' hVk heq
          rw [heq] at hc1
          have hsame:(s.toList == s.toList)=true:=by simp
          obtain ⟨i0,if0⟩:=row1 HS.out.hi
          obtain ⟨a0,af⟩:=row1 HS.out.h0
          obtain ⟨b0,bf⟩:=row1 HS.out.h1
          have hne5:r0 ≠ r1:=by have:=HOR.out; omega
          have HE1:Hid (KA BB W ((wr.setCell ⟨r0,0,none⟩ (.int .i64 (PO k'))).setCell ⟨r1,0,none⟩ (.bool true)).drew∧Ix .ret ys ((wr.setCell ⟨r0,0,none⟩ (.int .i64 (PO k'))).setCell ⟨r1,0,none⟩ (.bool true)).drew):=by
            have hor:=HOR.out
            refine ⟨((HKA.out.trans (KA.setCell wr ⟨r0,0,none⟩ _ HLT.out.2.2.1)).trans (KA.setCell _ ⟨r1,0,none⟩ _ HLT.out.2.2.2.1)).trans (KA.of_below (Below.refl _ _).drew),HX.out (PO k') _ HHT.out ?_ ?_ ((HS.out.bel.setCell (p:=⟨r0,0,none⟩) (show w.heap.size ≤ r0 by omega) _).setCell (p:=⟨r1,0,none⟩) (show w.heap.size ≤ r1 by omega) _).drew⟩
            · show ((wr.setCell ⟨r0,0,none⟩ (.int .i64 (PO k'))).setCell ⟨r1,0,none⟩ (.bool true)).heap[r0]?=_
              rw [heap_setCell_other _ ⟨r1,0,none⟩ _ _ (show r0 ≠ r1 from hne5),heap_setCell_same _ _ _ _ _ _ HS.out.h0]; rfl
            · show ((wr.setCell ⟨r0,0,none⟩ (.int .i64 (PO k'))).setCell ⟨r1,0,none⟩ (.bool true)).heap[r1]?=_
              rw [heap_setCell_same _ _ _ _ _ _ ((heap_setCell_other _ ⟨r0,0,none⟩ _ _ (show r1 ≠ r0 by omega)).trans HS.out.h1)]; rfl
          gi_wp2_with fail
          gi_region
          all_goals
            gi_wp2
            exact HE1.out
        · have hother:(V[k'].toList == s.toList)=false:=str_other (fun e=>heq (ByteArray.ext (Array.toList_inj.1 e)))
          have HMM:Hid (FQ (PO (k' + sd))=FR):=by show _=_; rw [← HQ.out]; exact (HMI.out k' hVk heq).symm
          obtain ⟨i0,if0⟩:=row1 HS.out.hi
          obtain ⟨t0,tf⟩:=row1 HS.out.hst
          obtain ⟨d0,df⟩:=row1 HS.out.hd
          generalize V[k']=TX at *
          have hne1:ki ≠ kk:=by have:=HOR.out; omega
          have hne2:kk ≠ ki:=by have:=HOR.out; omega
          have hne3:kd ≠ ki:=by have:=HOR.out; omega
          obtain ⟨W9,hW9⟩:∃ W9,W9=((wr.setCell ⟨ki,0,none⟩ (.int .i64 (PO (k' + sd)))).setCell ⟨kk,0,none⟩ (.int .i64 ((k':Int) + (sd:Int)))).drew:=⟨_,rfl⟩
          have HS9:Hid (SK g t q ks ki kst r0 r1 kb kk kd bx s (PO (k' + sd)) st back (k' + sd) sd w W9):=by
            show SK g t q ks ki kst r0 r1 kb kk kd bx s _ _ _ _ _ _ _
            rw [hW9]
            exact (((HS.out.setI HOR.out (PO (k' + sd))).setK HOR.out (k' + sd)).on (Below.refl _ _).drew:SK g t q ks ki kst r0 r1 kb kk kd bx s (PO (k' + sd)) st back (k' + sd) sd w ((wr.setCell ⟨ki,0,none⟩ (.int .i64 (PO (k' + sd)))).setCell ⟨kk,0,none⟩ (.int .i64 ((k' + sd:Nat):Int))).drew)
          have HN9:Hid (W9.heap[kn]?=some (.cells #[.string PK,.int .i64 (LX:Int),.bool LG] 57)):=by
            show _=_
            rw [hW9]
            show ((wr.setCell ⟨ki,0,none⟩ (.int .i64 (PO (k' + sd)))).setCell ⟨kk,0,none⟩ (.int .i64 ((k':Int) + (sd:Int)))).heap[kn]?=_
            exact (heap_setCell_other _ ⟨kk,0,none⟩ _ _ (show kn ≠ kk from HLT.out.2.2.2.2.2.1)).trans ((heap_setCell_other _ ⟨ki,0,none⟩ _ _ (show kn ≠ ki from HLT.out.2.2.2.2.1)).trans HNR.out)
          have HC9:Hid (∀ j (h:j < V.length),W9.cell? ⟨gv,j,none⟩=some (.string V[j])):=fun j h=>by
            rw [hW9]
            show ((wr.setCell ⟨ki,0,none⟩ (.int .i64 (PO (k' + sd)))).setCell ⟨kk,0,none⟩ (.int .i64 ((k':Int) + (sd:Int)))).cell? ⟨gv,j,none⟩=_
            exact (World.cell?_of_block (a:=⟨gv,j,none⟩) ((heap_setCell_other _ ⟨kk,0,none⟩ gv _ (show gv ≠ kk from HLT.out.2.2.2.2.2.2.2)).trans (heap_setCell_other _ ⟨ki,0,none⟩ gv _ (show gv ≠ ki from HLT.out.2.2.2.2.2.2.1)))).trans (HCW.out j h)
          have HK9:Hid (KA BB W W9):=by
            show KA _ _ _
            rw [hW9]
            exact ((HKA.out.trans (KA.setCell wr ⟨ki,0,none⟩ _ HLT.out.1)).trans (KA.setCell _ ⟨kk,0,none⟩ _ HLT.out.2.1)).trans (KA.of_below (Below.refl _ _).drew)
          have HM9:Hid (msK kk LX W9 < msK kk LX wr):=by
            show _ < _
            rw [HMS.out,msK_at HS9.out.hk]
            have:=HBK.out.2.1
            omega
          gi_wp2_with fail
          gi_region
          all_goals
            gi_wp2
            rw [← hW9]
            exact ⟨⟨k' + sd,Or.inr (by omega),HS9.out,HMM.out,HN9.out,HC9.out,HK9.out⟩,HM9.out⟩
      · have hj1:¬ ((k':Int) < (LX:Int)):=by omega
        have hwk:IntKind.i64.wrap ((k':Int) - (LX:Int))=((k' - LX:Nat):Int):=by have:=HBK.out; rw [IntKind.wrap_i64] <;> omega
        gi_wp2
        exact ⟨HKA.out.trans (KA.setCell _ ⟨kk,0,none⟩ _ HLT.out.2.1),HN.out k' _ (by omega) hk' HQ.out (HS.out.setK HOR.out _) (by have h1:=HB3.out; have h2:=HKA.out.size; simp; omega)⟩
  · have hlt1:¬ ((k:Int) < (LX:Int)):=by omega
    have hwk:IntKind.i64.wrap ((k:Int) - (LX:Int))=((k - LX:Nat):Int):=by have:=HBK.out; rw [IntKind.wrap_i64] <;> omega
    gi_wp2
    exact ⟨KA.setCell _ ⟨kk,0,none⟩ _ (show kk < BB by have h1:=HOR.out; have h2:=HB1.out; omega),HN.out k _ (by omega) (Or.inl (Nat.le_refl _)) HFQ.out (HSK.out.setK HOR.out _) (by have:=HB3.out; simpa using this)⟩
end Go.Proofs.YtjnbjfjoejfmpaaGreatDoor
namespace Go.Proofs.YtjnbjfjoejfmpaaGreatDoor
open Go.RowKit Go.Shelf
set_option linter.unusedVariables false
set_option linter.unusedSimpArgs false
def poQ (FN:Nat → Nat) (back:Bool) (t j k:Nat):Int:=if back then (FN (t + 1 - j):Int) - 1 - (k:Int) else (FN (t + j):Int) + (k:Int)
def vlQ (back:Bool) (X:List ByteArray):List ByteArray:=if back then X.reverse else X
theorem vlQ_len (back:Bool) (X:List ByteArray):(vlQ back X).length=X.length:=by unfold vlQ; split <;> simp
theorem vlQ_at {N:QM.NL} {FN:Nat → Nat} (hFN:∀ i,FN i=(N.take i).flatten.length) (back:Bool) (t j k:Nat) (ht:t < N.length) (hj:j < cntQ back N.length t) (hx:curQ back t j < N.length) (hk:k < N[curQ back t j].length) (hk2:k < (vlQ back N[curQ back t j]).length) :
    ∃ (i:Nat) (hi:i < N.flatten.length),poQ FN back t j k=(i:Int)∧N.flatten[i]=(vlQ back N[curQ back t j])[k]:=by
  have hfs:FN (curQ back t j + 1)=FN (curQ back t j) + N[curQ back t j].length:=by rw [hFN,hFN,takeN_snoc N _ hx,List.flatten_append,List.length_append]; simp
  have hle:FN (curQ back t j + 1) ≤ N.flatten.length:=by
    rw [hFN]
    have:=congrArg (fun M=>(List.flatten M).length) (List.take_append_drop (curQ back t j + 1) N)
    simp only [List.flatten_append,List.length_append] at this
    omega
  cases back with
  | false =>
    have hc:curQ false t j=t + j:=rfl
    have hi:FN (curQ false t j) + k < N.flatten.length:=by omega
    refine ⟨FN (curQ false t j) + k,hi,by unfold poQ; simp [hc],?_⟩
    have:=flat_at (N:=N) (t:=curQ false t j) (q:=k) (i:=FN (curQ false t j) + k) hx hk (by rw [← hFN]) hi
    rw [this]; rfl
  | true =>
    have hc:curQ true t j=t - j:=rfl
    have hjt:j < t + 1:=hj
    have hi:FN (curQ true t j) + (N[curQ true t j].length - 1 - k) < N.flatten.length:=by omega
    refine ⟨FN (curQ true t j) + (N[curQ true t j].length - 1 - k),hi,?_,?_⟩
    · unfold poQ
      rw [if_pos rfl,show t + 1 - j=curQ true t j + 1 by rw [hc]; omega,hfs]; omega
    · have:=flat_at (N:=N) (t:=curQ true t j) (q:=N[curQ true t j].length - 1 - k) (i:=FN (curQ true t j) + (N[curQ true t j].length - 1 - k)) hx (by omega) (by rw [← hFN]) hi
      rw [this]
      unfold vlQ
      simp
theorem poQ_next {N:QM.NL} {FN:Nat → Nat} (hFN:∀ i,FN i=(N.take i).flatten.length) (back:Bool) (t j k:Nat) (ht:t < N.length) (hj:j < cntQ back N.length t) (hx:curQ back t j < N.length) (hk:N[curQ back t j].length ≤ k):poQ FN back t j k=poQ FN back t (j + 1) (k - N[curQ back t j].length):=by
  have hfs:FN (curQ back t j + 1)=FN (curQ back t j) + N[curQ back t j].length:=by rw [hFN,hFN,takeN_snoc N _ hx,List.flatten_append,List.length_append]; simp
  cases back with
  | false =>
    unfold poQ
    have hc:curQ false t j=t + j:=rfl
    simp only [Bool.false_eq_true,if_false]
    rw [show t + (j + 1)=curQ false t j + 1 by rw [hc]; omega,hfs]
    show ((FN (curQ false t j):Nat):Int) + (k:Int)=_
    omega
  | true =>
    unfold poQ
    have hc:curQ true t j=t - j:=rfl
    have hjt:j < t + 1:=hj
    simp only [if_true]
    rw [show t + 1 - j=curQ true t j + 1 by rw [hc]; omega,show t + 1 - (j + 1)=curQ true t j by rw [hc]; omega,hfs]
    omega
theorem poQ_step (FN:Nat → Nat) (back:Bool) (t j k sd:Nat) (st:Int) (hst:st=if back then -(sd:Int) else (sd:Int)):poQ FN back t j k + st=poQ FN back t j (k + sd):=by
  subst hst; unfold poQ; cases back <;> simp <;> omega
theorem poQ_done {N:QM.NL} {FN:Nat → Nat} (hFN:∀ i,FN i=(N.take i).flatten.length) (back:Bool) (t k:Nat) (ht:t < N.length):¬ (0 ≤ poQ FN back t (cntQ back N.length t) k∧poQ FN back t (cntQ back N.length t) k < (N.flatten.length:Int)):=by
  unfold poQ cntQ
  cases back with
  | false =>
    simp only [Bool.false_eq_true,if_false]
    rw [hFN,show t + (N.length - t)=N.length by omega,List.take_length]; omega
  | true =>
    simp only [if_true]
    rw [hFN,show t + 1 - (t + 1)=0 by omega]; simp; omega
theorem poQ_bound {N:QM.NL} {FN:Nat → Nat} (hFN:∀ i,FN i=(N.take i).flatten.length) (back:Bool) (t j k:Nat) (hl:N.flatten.length ≤ 1000):-(k:Int) - 1 ≤ poQ FN back t j k∧poQ FN back t j k ≤ 1000 + (k:Int):=by
  have hle:∀ x,FN x ≤ 1000:=fun x=>by
    rw [hFN]
    have:=congrArg (fun M=>(List.flatten M).length) (List.take_append_drop x N)
    simp only [List.flatten_append,List.length_append] at this
    omega
  unfold poQ
  have h1:=hle (t + 1 - j)
  have h2:=hle (t + j)
  cases back <;> simp <;> omega
theorem fndQ_all {L:List ByteArray} (s:ByteArray) (st:Int) (hst:st ≠ 0) (p:Int) (i:Nat) (hi:i < L.length) (hp:p=(i:Int)):(L[i]=s → fndQ L s p st=some p)∧(L[i] ≠ s → fndQ L s p st=fndQ L s (p + st) st):=by
  subst hp
  exact ⟨fun h=>fndQ_hit L s st hst i hi h,fun h=>fndQ_miss L s st hst i hi h⟩
end Go.Proofs.YtjnbjfjoejfmpaaGreatDoor
