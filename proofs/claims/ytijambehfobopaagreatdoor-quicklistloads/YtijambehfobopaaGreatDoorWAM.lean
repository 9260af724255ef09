import Derived.Test.YtijambehfobopaaGreatDoorSpl2
import Derived.Test.YtijambehfobopaaGreatDoorWAE
import Derived.Test.YtijambehfobopaaGreatDoorWAC
import Derived.Test.YtijambehfobopaaGreatDoorFwd
import Derived.Test.YtijambehfobopaaGreatDoorWAH
import Derived.Test.YtijambehfobopaaGreatDoorWAK
import Derived.Test.YtijambehfobopaaGreatDoorWAL
import Derived.OwnWalkIn
import Derived.Maps.AppendAt
import Derived.ArgAppend
namespace Go.Proofs.YtijambehfobopaaGreatDoor
open Go.RowKit
set_option linter.unusedVariables false
open Classical in
set_option maxHeartbeats 1000000 in
theorem New_any (v:Value) (vs:List ByteArray) (hvl:vs.length ≤ 70368744177664) (hvm:∀ x ∈ vs,x.size ≤ 281474976710656) (w:World) (hv:SRow w v vs) (hw:Lay w) :
    Calls Tryz.prog 100 #[v] w fun e w'=>e=.returned (outS (fitI [] 0 0 vs) (LM.build (newI [] 0 0 vs)))∧Below w.heap.size w w':=by
  have HSP:Hid (∀ W,SRow W v vs → Lay W → Calls Tryz.prog 117 #[.agg #[.string ⟨#[]⟩,.int .i64 0],.int .i64 0,.int .i64 0,v] W fun e w'=>e=.returned (outS (fitI [] 0 0 vs) (LM.build (newI [] 0 0 vs)))∧Below W.heap.size W w'):=fun W hV hW =>
    spl_any [] begC_nil (by simp) (by simp [LM.bsum]) (by simp) 0 0 (by simp) v vs hvl hvm W hV hW
  have HV:Hid (SRow w v vs):=hv
  have HW:Hid (Lay w):=hw
  obtain ⟨P,c,rfl⟩:=hv.form
  clear hv hw hvm
  by_cases hf:fitI [] 0 0 vs
  · have HO:Hid (outS (fitI [] 0 0 vs) (LM.build (newI [] 0 0 vs))=.tuple #[.string (strB (LM.build (newI [] 0 0 vs))),.int .i64 0]):=by show _=_; unfold outS; rw [if_pos hf]
    rw [HO.out] at HSP ⊢
    clear hf
    generalize strB (LM.build (newI [] 0 0 vs))=Z at *
    go_enter Tryz.func100,Tryz.ntmps100
    go_wp2_with fail
    refine (show Calls _ _ _ _ _ from HSP.out _ HV.out HW.out).mono ?_
    rintro e w1 ⟨rfl,hb1⟩
    have HB:Hid (Below w.heap.size w w1):=hb1
    clear hb1
    go_wp2
    go_ret2
    exact ⟨rfl,HB.out⟩
  · have HO:Hid (outS (fitI [] 0 0 vs) (LM.build (newI [] 0 0 vs))=.tuple #[.string ⟨#[]⟩,.int .i64 2]):=by show _=_; unfold outS; rw [if_neg hf]
    rw [HO.out] at HSP ⊢
    clear hf
    go_enter Tryz.func100,Tryz.ntmps100
    go_wp2_with fail
    refine (show Calls _ _ _ _ _ from HSP.out _ HV.out HW.out).mono ?_
    rintro e w1 ⟨rfl,hb1⟩
    have HB:Hid (Below w.heap.size w w1):=hb1
    clear hb1
    go_wp2
    go_ret2
    exact ⟨rfl,HB.out⟩
set_option maxHeartbeats 1000000 in
theorem Len_ok (p:ByteArray) (l:List LM.Item) (h:LM.Pk p.data.toList l) (w:World) (hw:Lay w):Calls Tryz.prog 49 #[.string p] w fun e w'=>e=.returned (.tuple #[.int .i64 (l.length:Int),.int .i64 0])∧Below w.heap.size w w':=by
  have HRH:Hid (Calls Tryz.prog 88 #[.string p] w (rdP p w)):=read_any p (by have:=h.size; rw [list_len] at this; omega) w hw
  have HP:Hid _:=h
  clear hw h
  go_enter Tryz.func49,Tryz.ntmps49
  go_wp2_with fail
  refine (show Calls _ _ _ _ _ from HRH.out).mono ?_
  rintro e w1 ⟨⟨l',hl',rfl⟩ | ⟨hno,rfl⟩,hb1⟩
  · have he:l'=l:=hl'.uniq HP.out
    subst he
    have HB:Hid (Below w.heap.size w w1):=hb1
    clear hb1 hl'
    generalize strB (LM.bodyOf l')=Bo
    go_wp2
    go_ret2
    exact ⟨rfl,HB.out.alloc HB.out.size _⟩
  · exact absurd HP.out (hno l)
end Go.Proofs.YtijambehfobopaaGreatDoor
namespace Go.Proofs.YtijambehfobopaaGreatDoor
open Go.RowKit
set_option linter.unusedVariables false
attribute [local go_sem] Oper.semAt_some
def atV (l:List LM.Item) (i:Int):Value:=match (if 0 ≤ i then l[i.toNat]? else none) with
  | some it=>.tuple #[.string (strB (LM.val it)),.int .i64 0]
  | none=>.tuple #[.string ⟨#[]⟩,.int .i64 6]
end Go.Proofs.YtijambehfobopaaGreatDoor
namespace Go.Proofs.YtijambehfobopaaGreatDoor
open Go.RowKit
set_option linter.unusedVariables false
theorem bk_at {b:ByteArray} {E g j:Nat} {B:List UInt8} (h:(b.data.toList.drop (E - g)).take g=B) (hE:E ≤ b.size) (hg:g ≤ E) (hj:j < g) {x:UInt8} (hx:B[j]?=some x) (k:Nat) (hk:k=E - g + j) (hkb:k < b.size):b[k]=x:=by
  subst hk
  have h1:=at_list b (E - g + j) hkb
  rw [← h,List.getElem?_take_of_lt hj,List.getElem?_drop,h1] at hx
  exact Option.some.inj hx
theorem row2b {w:World} {g T:Nat} {v0 v1:Value} (h:w.heap[g]?=some (.cells #[v0,v1] T)) :
    w.cell? ⟨g,0,none⟩=some v0∧w.cell? ⟨g,1,none⟩=some v1∧∀ j,w.frozen? ⟨g,j,none⟩=false:=by
  refine ⟨?_,?_,fun j=>frozen_of_row _ _ _ _ _ h⟩ <;> rw [cell_of_row _ _ _ _ _ _ h] <;> rfl
theorem w64_mul (y k:Nat) (h:y < 128) (hk:k ≤ 16384):wrap64 ((y:Int) * (k:Int))=(y:Int) * (k:Int):=by
  have h1:(y:Int) * (k:Int)=((y * k:Nat):Int):=by simp
  have h2:y * k ≤ 128 * 16384:=Nat.mul_le_mul (by omega) hk
  rw [h1]; unfold wrap64; omega
theorem w64_sub (p n:Nat) (hp:p ≤ 4294967296) (hn:n < 2097152):wrap64 ((p:Int) - wrap64 (n:Int))=(p:Int) - n:=by
  unfold wrap64; omega
theorem or_step {X Y n:Nat} {A B z:Int} (h:bits .or .i64 (wrap64 (X:Int)) A=wrap64 (Y:Int)) (hA:A=B) (hY:Y=n) (hz:B=z):bits .or .i64 (wrap64 (X:Int)) z=wrap64 (n:Int):=by
  subst hA; subst hY; subst hz; exact h
theorem bk_byte (n j:Nat) (h:n < 2097152) (hj:j < LM.bsz n):∃ x,(LM.back n)[LM.bsz n - 1 - j]?=some x∧x.toNat=n / 128 ^ j % 128 + (if j + 1 < LM.bsz n then 128 else 0):=by
  have h3:=LM.bsz_le3 n h
  refine ⟨LM.bbyte n (LM.bsz n) (LM.bsz n - 1 - j),by simp only [LM.back,List.getElem?_map,List.getElem?_range (show LM.bsz n - 1 - j < LM.bsz n by omega),Option.map_some],?_⟩
  unfold LM.bbyte
  rw [show LM.bsz n - 1 - (LM.bsz n - 1 - j)=j by omega]
  have h1:n / 128 ^ j % 128 < 128:=Nat.mod_lt _ (by omega)
  by_cases hl:j + 1 < LM.bsz n
  · rw [if_pos hl,if_pos (by omega),LM.ofNat_toNat _ (by omega)]
  · rw [if_neg hl,if_neg (by omega),LM.ofNat_toNat _ (by omega)]
theorem bsz_pow (n:Nat) (h:n < 2097152):n < 128 ^ LM.bsz n:=by
  unfold LM.bsz; (repeat' split) <;> omega
theorem mod_next (n k:Nat):n % 128 ^ (k + 1)=n % 128 ^ k + n / 128 ^ k % 128 * 2 ^ (7 * k):=by
  rw [Nat.pow_succ,Nat.mod_mul,Nat.pow_mul,Nat.mul_comm (128 ^ k)]
set_option maxHeartbeats 1000000 in
set_option maxRecDepth 100000 in
theorem bbef_any (b:ByteArray) (c:Int) (E n:Nat) (hE:E ≤ b.size) (hs:b.size ≤ 4294967296) (hn:n < 2097152) (hle:n + LM.bsz n ≤ E) (hbk:(b.data.toList.drop (E - LM.bsz n)).take (LM.bsz n)=LM.back n) (w:World) :
    Calls Tryz.prog 127 #[.agg #[.string b,.int .i64 c],.int .i64 (E:Int)] w fun e w'=>e=.returned (.int .i64 ((E - LM.bsz n - n:Nat):Int))∧Below w.heap.size w w':=by
  obtain ⟨g,hg⟩:∃ g,LM.bsz n=g:=⟨_,rfl⟩
  have h1:=LM.bsz_pos n
  have h3:=LM.bsz_le3 n hn
  have HPW:Hid (n < 128 ^ g):=by rw [← hg]; exact bsz_pow n hn
  have HBY:Hid (∀ j,j < g → ∀ p (hp:p < b.size),p + 1 + j=E → b[p].toNat=n / 128 ^ j % 128 + (if j + 1 < g then 128 else 0)):=fun j hj p hp he=>by
    obtain ⟨x,hx1,hx2⟩:=bk_byte n j hn (by omega)
    rw [bk_at hbk hE (by omega) (j:=LM.bsz n - 1 - j) (by omega) hx1 p (by omega) hp,hx2,hg]
  rw [hg]
  rw [hg] at h1 h3 hle
  clear hbk hg
  have HR0:Hid ((w.alloc (.cells #[.string b,.int .i64 c] 131)).heap[w.heap.size]?=some (.cells #[.string b,.int .i64 c] 131)):=one_alloc w _
  have HB0:Hid (Below w.heap.size w (w.alloc (.cells #[.string b,.int .i64 c] 131))):=(Below.refl _ w).alloc (Nat.le_refl _) _
  go_enter Tryz.func127,Tryz.ntmps127
  go_wp2
  go_loopw [1,5,6] (fun at_ sz sh wr=>∃ j p:Nat,j < g∧p + 1 + j=E∧at_=.int .i64 ((p:Int) + 1)∧sz=.int .i64 (wrap64 (n % 128 ^ j:Nat))∧sh=.int .i64 ((7 * j:Nat):Int)∧wr.heap[w.heap.size]?=some (.cells #[.string b,.int .i64 c] 131)∧Below w.heap.size w wr)
    (fun at_ _ _ _=>(intOf at_).toNat)
  case atStart=>exact ⟨0,E - 1,by omega,by omega,by congr 1; omega,by simp [Nat.mod_one,wrap64],rfl,HR0.out,HB0.out⟩
  case round =>
    obtain ⟨j,p,hj,hp,rfl,rfl,rfl,hrow,hbel⟩:=hrel
    have hpb:p < b.size:=by omega
    have hby:=HBY.out j hj p hpb hp
    have hnx:=mod_next n j
    have hXl:n % 128 ^ j < 2 ^ (7 * j):=by rw [Nat.pow_mul]; exact Nat.mod_lt _ (Nat.pow_pos (by omega))
    have hyl:n / 128 ^ j % 128 < 128:=Nat.mod_lt _ (by omega)
    have hor:=or64 (n % 128 ^ j) (n / 128 ^ j % 128) (7 * j) hXl (by omega) (by omega)
    rw [← hnx] at hor
    have HN:Hid (j + 1=g → n % 128 ^ (j + 1)=n):=fun h=>by rw [h]; exact Nat.mod_eq_of_lt HPW.out
    generalize n % 128 ^ j=X at hor ⊢
    generalize hY:n % 128 ^ (j + 1)=Y at hor HN
    generalize n / 128 ^ j % 128=y at hby hyl hor
    obtain ⟨d0,d1,df⟩:=row2b hrow
    have HB:Hid (Below w.heap.size w wr):=hbel
    have HROW:Hid _:=hrow
    have hq0:(0:Int) ≤ (p:Int):=by omega
    have hq1:(p:Int) < (b.size:Int):=by omega
    by_cases hlast:j + 1 < g
    · rw [if_pos hlast] at hby
      obtain ⟨q,hq⟩:∃ q:Nat,b[p].toNat=q:=⟨_,rfl⟩
      rw [hq] at hby
      have hqm:(q:Int) % 128=(y:Int):=by omega
      have hqd:decide ((q:Int) < 128)=false:=by simp; omega
      have hq8:q < 256:=by omega
      have HYY:Hid _:=hY
      have HH:Hid _:=hby
      clear hbel hrow hby HN hY HPW HBY
      have HP:Hid (1 ≤ p):=by show _ ≤ _; omega
      rcases (show j=0 ∨ j=1 by omega) with rfl | rfl
      all_goals
        simp only [Nat.reduceMul,Nat.reducePow,Int.natCast_mul] at hor
        have HOR:Hid _:=hor
        clear hor
        go_wp2
      · have hp1:=HP.out
        refine ⟨⟨1,p - 1,hlast,by omega,by congr 1; omega,?_,rfl,HROW.out,HB.out⟩,by simp [intOf]⟩
        rw [HYY.out]
        refine congrArg (Value.int .i64) (Eq.trans ?_ HOR.out)
        congr 1; unfold wrap64; omega
      · have hp1:=HP.out
        refine ⟨⟨2,p - 1,hlast,by omega,by congr 1; omega,?_,rfl,HROW.out,HB.out⟩,by simp [intOf]⟩
        rw [HYY.out]
        refine congrArg (Value.int .i64) (Eq.trans ?_ HOR.out)
        congr 1; unfold wrap64; omega
    · rw [if_neg hlast] at hby
      obtain ⟨q,hq⟩:∃ q:Nat,b[p].toNat=q:=⟨_,rfl⟩
      rw [hq] at hby
      have hqm:(q:Int) % 128=(y:Int):=by omega
      have hqd:decide ((q:Int) < 128)=true:=by simp; omega
      have hq8:q < 128:=by omega
      have HH:Hid _:=hby
      have HYN:Hid (Y=n):=HN.out (by omega)
      have HRR:Hid (((E - g - n:Nat):Int)=(p:Int) - n):=by show _=_; omega
      clear hbel hrow hby HN hY HPW HBY
      rcases (show j=0 ∨ j=1 ∨ j=2 by omega) with rfl | rfl | rfl
      all_goals
        simp only [Nat.reduceMul,Nat.reducePow,Int.natCast_mul] at hor
        have HOR:Hid _:=hor
        clear hor
        go_wp2
        go_ret
        refine ⟨?_,HB.out⟩
        rw [HRR.out]
        refine congrArg Ending.returned (congrArg (Value.int .i64) ?_)
      · rw [or_step HOR.out (w64_mul y 1 hyl (by omega)) HYN.out (by omega)]
        exact w64_sub p n (by omega) hn
      · rw [or_step (z:=(y:Int) * 128) HOR.out (w64_mul y 128 hyl (by omega)) HYN.out rfl]
        exact w64_sub p n (by omega) hn
      · rw [or_step (z:=(y:Int) * 16384) HOR.out (w64_mul y 16384 hyl (by omega)) HYN.out rfl]
        exact w64_sub p n (by omega) hn
end Go.Proofs.YtijambehfobopaaGreatDoor
namespace Go.Proofs.YtijambehfobopaaGreatDoor
open Go.RowKit Go.Shelf
set_option linter.unusedVariables false
attribute [local go_sem] Oper.semAt_some
theorem rev_step {α:Type} (L:List α) (j:Nat) (x:α) (h:L[j]?=some x):L.reverse.take (L.length - 1 - j) ++ [x]=L.reverse.take (L.length - j)∧L.reverse.take (L.length - 1 - j) ++ [x] <+: L.reverse:=by
  have hj:j < L.length:=(List.getElem?_eq_some_iff.1 h).1
  have e:L.reverse.take (L.length - 1 - j) ++ [x]=L.reverse.take (L.length - j):=by
    have h1:L.reverse[L.length - 1 - j]?=some x:=by
      rw [List.getElem?_reverse (by omega),show L.length - 1 - (L.length - 1 - j)=j by omega]; exact h
    rw [show L.length - j=(L.length - 1 - j) + 1 by omega]
    obtain ⟨hi,e2⟩:=List.getElem?_eq_some_iff.1 h1
    rw [List.take_succ_eq_append_getElem hi,e2]
  exact ⟨e,e ▸ List.take_prefix _ _⟩
theorem ent_facts (l:List LM.Item) (hl:∀ it ∈ l,LM.Wf it) (j:Nat) (hj:j < l.length) :
    (LM.entsFrom 0 0 l)[j]?=some ⟨j,l[j],LM.bsum (l.take j),LM.dsize l[j]⟩∧LM.bsum (l.take j) < (LM.bodyOf l).length∧LM.rdItem ((LM.bodyOf l).drop (LM.bsum (l.take j)))=some (l[j],LM.dsize l[j]) ∧
    ((LM.bodyOf l).drop (LM.bsum (l.take j) + LM.dsize l[j])).take (LM.bsz (LM.dsize l[j]))=LM.back (LM.dsize l[j])∧LM.bsum (l.take (j + 1))=LM.bsum (l.take j) + (LM.dsize l[j] + LM.bsz (LM.dsize l[j]))∧LM.dsize l[j] < 2097152:=by
  have hg:=LM.ents_get l 0 0 j hj
  simp only [Nat.zero_add] at hg
  have hm:=List.mem_of_getElem? hg
  have hp:=LM.parse_body l (l.length + 1) 0 0 hl (by omega)
  have h1:=LM.parse_mem (LM.bodyOf l) (l.length + 1) 0 0 (LM.bodyOf l) (by simp) ⟨j,l[j],LM.bsum (l.take j),LM.dsize l[j]⟩ (by rw [hp]; exact hm)
  have h2:=LM.ents_ok (LM.bodyOf l) l 0 0 hl (by simp) _ hm
  refine ⟨hg,h1.1,h1.2,h2.2.2,?_,?_⟩
  · rw [List.take_succ_eq_append_getElem hj,LM.bsum_app,LM.bsum_cons,LM.bsum_nil]; rfl
  · have:=LM.dsize_le _ (hl _ (List.getElem_mem hj)); omega
theorem bwd_any (b:ByteArray) (c:Int) (w:World):Calls Tryz.prog 109 #[.agg #[.string b,.int .i64 c]] w fun e w' =>
    e=.returned (.func (.func 126) #[] #[.pointer (some ⟨w.heap.size,0,none⟩)])∧w'=w.alloc (.cells #[.string b,.int .i64 c] 131):=by
  have hmf:∀ (fn:Fn) (first cap:Array Value) (w:World),(Instr.makeFunc fn first cap).run Tryz.prog w=.ok (.func fn first cap) w:=fun _ _ _ _=>rfl
  go_enter Tryz.func109,Tryz.ntmps109
  go_wp2
  go_ret
  exact ⟨rfl,rfl⟩
set_option maxHeartbeats 2000000 in
set_option maxRecDepth 100000 in
theorem bwd_seq (n:Nat) (l:List LM.Item) (hl:∀ it ∈ l,LM.Wf it) (hs:LM.bsum l ≤ 1073741824) (Bo:ByteArray) (hBo:Bo.data.toList=LM.bodyOf l) (bx B0:Nat) :
    SeqP n Tryz.prog 126 #[.pointer (some ⟨bx,0,none⟩)] encs (LM.entsFrom 0 0 l).reverse false pch (Box Bo (l.length:Int) bx) B0:=by
  intro ll J Jx Jp W hBW hJ hbox hJx hY h0
  have hBs:Bo.size=LM.bsum l:=by rw [← list_len,hBo,LM.bodyOf_len]
  have hlen:(LM.entsFrom 0 0 l).length=l.length:=LM.ents_len l 0 0
  have hge:=LM.bsum_ge l
  refine callsIn_of_wp Tryz.func126 rfl trivial ?_ rfl
  simp only [Tryz.ntmps126,List.size_toArray,List.length_cons,List.length_nil,Nat.reduceAdd,Nat.reduceSub,Array.replicate_succ,Array.replicate_zero,List.push_toArray,List.append_toArray,List.nil_append,List.cons_append]
  obtain ⟨x0,x1,xf⟩:=row2 (hbox _ _ h0).row
  have HBO:Hid _:=hBo
  have HL:Hid _:=hl
  have HY:Hid _:=hY
  clear hBo hl hY
  gi_wp2
  clear x0 x1 xf
  gi_loopw [3,4] (fun at_ pl wr=>(pl=.int .i64 (-1)∧J (LM.entsFrom 0 0 l).reverse wr∧B0 ≤ wr.heap.size) ∨ ∃ j:Nat,j < l.length∧pl=.int .i64 (j:Int)∧at_=.int .i64 (LM.bsum (l.take (j + 1)):Nat)∧J ((LM.entsFrom 0 0 l).reverse.take (l.length - 1 - j)) wr∧B0 ≤ wr.heap.size)
    (fun _ pl _=>(intOf pl + 1).toNat)
  case atStart =>
    by_cases h:l.length=0
    · have hn:l=[]:=List.eq_nil_of_length_eq_zero h
      subst hn
      exact Or.inl ⟨rfl,h0,hBW⟩
    · refine Or.inr ⟨l.length - 1,by omega,?_,?_,?_,hBW⟩
      · congr 1; omega
      · rw [show l.length - 1 + 1=l.length by omega,List.take_length,← hBs]
      · rw [show l.length - 1 - (l.length - 1)=0 by omega]; exact h0
  case round =>
    rcases hrel with ⟨rfl,hJs,hB0⟩ | ⟨j,hj,rfl,rfl,hJs,hB0⟩
    · gi_wp2
      go_end0
      exact Or.inl ⟨⟨_,rfl⟩,by trivial,hJs⟩
    · obtain ⟨hget,hlt,hrd,hbk,hsum,hd⟩:=ent_facts l HL.out j hj
      have hbx:=hbox _ _ hJs
      obtain ⟨y0,y1,yf⟩:=row2 hbx.row
      obtain ⟨hrev,hpre⟩:=rev_step _ j _ hget
      rw [hlen] at hrev hpre
      obtain ⟨⟨t,m,q⟩,hit⟩:∃ it,l[j]=it:=⟨_,rfl⟩
      rw [hit] at hget hrd hbk hsum hd hrev hpre
      obtain ⟨sp,hsp⟩:∃ sp,LM.dsize ⟨t,m,q⟩=sp:=⟨_,rfl⟩
      rw [hsp] at hget hrd hbk hsum hd hrev hpre
      have hE1:=LM.bsum_take_le l (j + 1)
      rw [LM.bodyOf_len,← hBs] at hlt
      obtain ⟨A0,hA0⟩:∃ A0,LM.bsum (l.take j)=A0:=⟨_,rfl⟩
      obtain ⟨A1,hA1⟩:∃ A1,LM.bsum (l.take (j + 1))=A1:=⟨_,rfl⟩
      rw [hA0] at hrd hbk hsum hlt hrev hpre
      rw [hA1] at hsum hE1 ⊢
      have hsub:A1 - LM.bsz sp=A0 + sp:=by omega
      have HBB:Hid (∀ W',Calls Tryz.prog 127 #[.agg #[.string Bo,.int .i64 (l.length:Int)],.int .i64 (A1:Int)] W' fun e w'=>e=.returned (.int .i64 (A0:Int))∧Below W'.heap.size W' w'):=fun W'=>by
        have:=bbef_any Bo (l.length:Int) A1 sp (by omega) (by omega) hd (by omega) (by rw [hsub,HBO.out]; exact hbk) W'
        rwa [show A1 - LM.bsz sp - sp=A0 by omega] at this
      obtain ⟨T,hTT⟩:∃ T,strB t=T:=⟨_,rfl⟩
      have HE:Hid (∀ W',Wid W' → Calls Tryz.prog 128 #[.agg #[.string Bo,.int .i64 (l.length:Int)],.int .i64 (A0:Int)] W' fun e w'=>e=.returned (.agg #[.string T,.int .i64 m,.bool q,.int .i64 (A0:Int),.int .i64 (sp:Int)])∧Below W'.heap.size W' w'):=fun W' hW'=>by
        have:=entAt_any Bo (l.length:Int) A0 hlt (by omega) W' hW'
        rw [HBO.out,hrd] at this
        rw [← hTT]; exact this
      have HX:Hid (Box Bo (l.length:Int) bx wr):=hbx
      have HA0:Hid _:=hA0
      have HJ:Hid _:=hJs
      have HRV:Hid _:=hrev
      have HPR:Hid _:=hpre
      clear hbx hJs hrev hpre hget hrd hbk hsum hd hsub hit hsp hA0 hA1
      gi_wp2_with fail
      refine ⟨trivial,fun h=>(by cases h),(callsIn_wide.2 (HBB.out _)).mono ?_⟩
      rintro e w1 ⟨rfl,hb1⟩
      have HB1:Hid (Below wr.heap.size wr w1):=hb1
      have HX1:Hid (Box Bo (l.length:Int) bx w1):=HX.out.on hb1
      clear hb1 y0 y1 yf
      obtain ⟨y0,y1,yf⟩:=row2 HX1.out.row
      gi_wp2_with fail
      refine ⟨trivial,fun h=>(by cases h),(callsIn_wide.2 (HE.out _ HX1.out.wid)).mono ?_⟩
      rintro e w2 ⟨rfl,hb2⟩
      have HB2:Hid (Below wr.heap.size wr w2):=bel_to HB1.out hb2 (Nat.le_refl _)
      obtain ⟨fn,tmps,assign,body,hy,hR⟩:=HY.out _ _ _ HPR.out (hJ _ _ _ HJ.out HB2.out)
      simp only [encs,encE,hTT] at hy
      clear hb2
      gi_wp2
      refine ⟨fun h=>(by cases h),hR.mono ?_⟩
      rintro e W3 (⟨rfl,hJ3,hkc,hz3⟩ | ⟨rfl,hJx3⟩ | ⟨rfl,hJp3⟩)
      · have HJ3:Hid _:=hJ3
        have HZ:Hid (B0 ≤ W3.heap.size):=by have:=HB2.out.size; show _ ≤ _; omega
        clear hJ3 hR hy hkc hz3
        gi_wp2
        refine ⟨?_,by simp [intOf]⟩
        have h3:=HJ3.out
        rw [HRV.out] at h3
        by_cases hj0:j=0
        · subst hj0
          refine Or.inl ⟨rfl,?_,HZ.out⟩
          rwa [Nat.sub_zero,List.take_of_length_le (by rw [List.length_reverse,hlen]; omega)] at h3
        · refine Or.inr ⟨j - 1,by omega,by congr 1; omega,?_,?_,HZ.out⟩
          · rw [show j - 1 + 1=j by omega,HA0.out]
          · rwa [show l.length - 1 - (j - 1)=l.length - j by omega]
      · gi_wp2
        refine bodyPost_ret (results_none rfl _ _ _) rfl ?_
        exact Or.inr (Or.inl ⟨⟨_,rfl⟩,_,HPR.out,hJx3⟩)
      · exact ⟨rfl,Or.inr (Or.inr ⟨rfl,Or.inl hJp3⟩)⟩
end Go.Proofs.YtijambehfobopaaGreatDoor
namespace Go.Proofs.YtijambehfobopaaGreatDoor
open Go.RowKit
set_option linter.unusedVariables false
attribute [local go_sem] Oper.semAt_some
theorem ents_pl (l:List LM.Item) (x:LM.Ent) (h:x ∈ LM.entsFrom 0 0 l):∃ j,∃ hj:j < l.length,x=⟨j,l[j],LM.bsum (l.take j),LM.dsize l[j]⟩:=by
  obtain ⟨j,hj⟩:=List.getElem?_of_mem h
  have hlt:j < l.length:=by
    have:=(List.getElem?_eq_some_iff.1 hj).1
    rwa [LM.ents_len] at this
  have:=LM.ents_get l 0 0 j hlt
  simp only [Nat.zero_add] at this
  exact ⟨j,hlt,Option.some.inj (hj.symm.trans this)⟩
theorem ents_mem (l:List LM.Item) (i:Nat) (hi:i < l.length):∃ x ∈ LM.entsFrom 0 0 l,x.place=i:=by
  have:=LM.ents_get l 0 0 i hi
  simp only [Nat.zero_add] at this
  exact ⟨_,List.mem_of_getElem? this,rfl⟩
set_option maxHeartbeats 1000000 in
set_option maxRecDepth 100000 in
theorem begin_f (l:List LM.Item) (hl:∀ it ∈ l,LM.Wf it) (hs:LM.bsum l ≤ 1073741824) (i:Nat) (hi:i < l.length) (hh:i ≤ l.length / 2) (w:World) (hw:Lay w) :
    Calls Tryz.prog 133 #[.agg #[.string (strB (LM.bodyOf l)),.int .i64 (l.length:Int)],.int .i64 i] w fun e w'=>e=.returned (.int .i64 (LM.bsum (l.take i):Nat))∧Below w.heap.size w w':=by
  have HW:Hid (Lay w):=hw
  have hBs:(strB (LM.bodyOf l)).size=LM.bsum l:=by rw [strB_size,LM.bodyOf_len]
  have HBL:Hid ((strB (LM.bodyOf l)).data.toList=LM.bodyOf l):=strB_list _
  have hge:=LM.bsum_ge l
  generalize strB (LM.bodyOf l)=Bo at *
  have hne:((i:Int) == (l.length:Int))=false:=by simp; omega
  have hnl:¬ ((i:Int)=(l.length:Int)):=by omega
  have hdh:decide ((l.length:Int) / 2 < (i:Int))=false:=by simp; omega
  have hdt:Int.tdiv (l.length:Int) 2=(l.length:Int) / 2:=Int.tdiv_eq_ediv_of_nonneg (by omega)
  clear hw
  refine calls_of_wpB (n:=10) Tryz.func133 rfl ?_
  simp only [Tryz.ntmps133,List.size_toArray,List.length_cons,List.length_nil,Nat.reduceAdd,Nat.reduceSub,Array.replicate_succ,Array.replicate_zero,List.push_toArray,List.append_toArray,List.nil_append,List.cons_append]
  refine wpB_then (n:=10) ?_
  gi_wp2
  obtain ⟨W1,hW1⟩:∃ W1,W1=(w.alloc (.cells #[.string Bo,.int .i64 (l.length:Int)] 131)).alloc (.cells #[.int .i64 (i:Int)] 3):=⟨_,rfl⟩
  have HB1:Hid (Below w.heap.size w W1):=by rw [hW1]; exact ((Below.refl _ w).alloc (Nat.le_refl _) _).alloc (by simp) _
  have HP1:Hid (W1.heap[w.heap.size]?=some (.cells #[.string Bo,.int .i64 (l.length:Int)] 131)):=by
    rw [hW1]; exact keep_row (one_alloc w _) ((Below.refl _ _).alloc (Nat.le_refl _) _)
  have HI1:Hid (W1.heap[w.heap.size + 1]?=some (.cells #[.int .i64 (i:Int)] 3)):=by
    rw [hW1]
    have:=one_alloc (w.alloc (.cells #[.string Bo,.int .i64 (l.length:Int)] 131)) (.cells #[.int .i64 (i:Int)] 3)
    rwa [World.size_alloc] at this
  rw [← hW1]
  clear hW1
  obtain ⟨p0,p1,pf⟩:=prow2 HP1.out
  obtain ⟨i0,if0⟩:=row1 HI1.out
  refine wpB_then (n:=10) ?_
  gi_wp2
  refine wpB_then (n:=10) ?_
  gi_wp2_with fail
  refine ⟨trivial,(callsIn_wide.2 (fwd_any Bo (l.length:Int) _)).mono ?_⟩
  rintro e w3 ⟨rfl,hw3⟩
  have HX3:Hid (w3.heap[W1.heap.size]?=some (.cells #[.string Bo,.int .i64 (l.length:Int)] 131)):=by rw [hw3]; exact one_alloc W1 _
  have HS3:Hid (w3.heap.size=W1.heap.size + 1):=by show _=_; rw [hw3,World.size_alloc]
  have hbw:Below W1.heap.size W1 w3:=by rw [hw3]; exact (Below.refl _ _).alloc (Nat.le_refl _) _
  have HP3:Hid _:=keep_row HP1.out hbw
  have HI3:Hid _:=keep_row HI1.out hbw
  have HB3:Hid (Below w.heap.size w w3):=bel_to HB1.out hbw (Nat.le_refl _)
  have hlt1:w.heap.size + 1 < W1.heap.size:=row_lt HI1.out
  clear hw3 hbw p0 p1 pf i0 if0
  obtain ⟨p0,p1,pf⟩:=prow2 HP3.out
  obtain ⟨i0,if0⟩:=row1 HI3.out
  gi_wp2
  refine wpB_then (n:=10) ?_
  gi_wp2
  obtain ⟨bx,hbx⟩:∃ bx,W1.heap.size=bx:=⟨_,rfl⟩
  rw [hbx]
  rw [hbx] at HX3
  obtain ⟨w4,hw4⟩:∃ w4,w4=w3:=⟨_,rfl⟩
  rw [← hw4]
  have HS4:Hid (w4.heap.size=w3.heap.size):=by show _=_; rw [hw4]
  have HX4:Hid (w4.heap[bx]?=some (.cells #[.string Bo,.int .i64 (l.length:Int)] 131)):=by rw [hw4]; exact HX3.out
  have HP4:Hid (w4.heap[w.heap.size]?=some (.cells #[.string Bo,.int .i64 (l.length:Int)] 131)):=by rw [hw4]; exact HP3.out
  have HI4:Hid (w4.heap[w.heap.size + 1]?=some (.cells #[.int .i64 (i:Int)] 3)):=by rw [hw4]; exact HI3.out
  have HB4:Hid (Below w.heap.size w w4):=by rw [hw4]; exact HB3.out
  clear hw4 p0 p1 pf i0 if0
  refine wpB_then (n:=10) ?_
  gi_wp2
  obtain ⟨w5,hw5⟩:∃ w5,w5=w4.alloc (.cells #[.int .i64 0] 3):=⟨_,rfl⟩
  rw [← hw5]
  obtain ⟨kb,hkb⟩:∃ kb,w4.heap.size=kb:=⟨_,rfl⟩
  rw [hkb]
  have HR5:Hid (w5.heap[kb]?=some (.cells #[.int .i64 0] 3)):=by rw [hw5,← hkb]; exact one_alloc w4 _
  have hs5:w5.heap.size=kb + 1:=by rw [hw5,World.size_alloc,hkb]
  have hbw:Below w4.heap.size w4 w5:=by rw [hw5]; exact (Below.refl _ _).alloc (Nat.le_refl _) _
  have HX5:Hid _:=keep_row HX4.out hbw
  have HI5:Hid _:=keep_row HI4.out hbw
  have HB5:Hid (Below w.heap.size w w5):=bel_to HB4.out hbw (Nat.le_refl _)
  clear hw5 hbw
  refine wpB_seq (wpB_then (n:=10) ?_)
  gi_wp2
  refine wpB_block ?_
  have hseq:=fwd_seq 9 Bo (l.length:Int) bx (l.length + LM.bsum l + 1) w5.heap.size (by omega) (by omega)
  rw [HBL.out,LM.parse_body l _ 0 0 hl (by omega)] at hseq
  have HDIS:Hid (bx < kb∧w.heap.size + 1 < kb∧w.heap.size + 1 < w5.heap.size):=by
    have h1:=row_lt HX4.out
    have h2:=row_lt HI4.out
    have h3:=row_lt HI5.out
    refine ⟨by omega,by omega,h3⟩
  have HSQ:Hid _:=hseq
  clear hseq
  refine WpB_act (fun a0 ha0=>?_)
  refine wpB_range (n:=10) (α:=LM.Ent) (encs:=encs) (L:=(LM.entsFrom 0 0 l)) (bad:=false) (pch:=pch) (box:=Box Bo (l.length:Int) bx) Tryz.func133 (gf:=119) (lb:=#[.pointer (some ⟨bx,0,none⟩)]) (by rw [ha0]; rfl) (enters_of Tryz.func119 (by kernel_rfl) rfl) HSQ.out (fun _=>rfl)
    (fun pre W=>W.heap[w.heap.size + 1]?=some (.cells #[.int .i64 (i:Int)] 3)∧W.heap[kb]?=some (.cells #[.int .i64 0] 3)∧W.heap[bx]?=some (.cells #[.string Bo,.int .i64 (l.length:Int)] 131)∧Below w.heap.size w W∧∀ y ∈ pre,y.place ≠ i)
    (fun cd pre W=>cd=.exit 0∧W.heap[kb]?=some (.cells #[.int .i64 (LM.bsum (l.take i):Nat)] 3)∧Below w.heap.size w W)
    (fun _=>False)
    ?hI ?hIx (fun _ _ _ _ hs _ _=>hs) ?hbox ?h0
    (fun (x:LM.Ent) (a':Act) (W:World)=>∃ kk:Nat,a'={ tmps:=(((a0.tmps.setIfInBounds 26 (.int .i64 (x.place:Int))).setIfInBounds 27 (encE x.it x.begin x.span)).setIfInBounds 7 (.int .i64 (x.place:Int))).setIfInBounds 8 (.pointer (some ⟨kk,0,none⟩)),defers:=[] }∧W.heap[kk]?=some (.cells #[.string (strB x.it.txt),.int .i64 x.it.num,.bool x.it.isN,.int .i64 (x.begin:Int),.int .i64 (x.span:Int)] 159)) ?hAx ?assign ?body ?done ?stop ?pan
  case hI =>
    rintro s A B row ⟨h2,h3,h4,h5,h6⟩ hg hr
    exact ⟨own_row h2 hg hr,own_row h3 hg hr,own_row h4 hg hr,ownFrom_below (β:=Unit) (Nat.le_refl _) HB5.out.size () A B row h5 hg hr,h6⟩
  case hIx =>
    rintro cd s A B row ⟨h1,h2,h3⟩ hg hr
    exact ⟨h1,own_row h2 hg hr,ownFrom_below (β:=Unit) (Nat.le_refl _) HB5.out.size () A B row h3 hg hr⟩
  case hbox =>
    rintro pre W ⟨h2,h3,h4,h5,h6⟩
    exact ⟨h4,(HW.out.on h5).wid⟩
  case h0=>exact ⟨HI5.out,HR5.out,HX5.out,HB5.out,by simp⟩
  case hAx =>
    rintro x a' s A B row ⟨kk,h1,h2⟩ hg hr
    exact ⟨kk,h1,own_row h2 hg hr⟩
  case pan=>intro D W _ h; rcases h with h | ⟨h,_⟩; exact h.elim; cases h
  case assign =>
    intro ll pre x W K hpre hI hK
    have HKK:Hid _:=hK
    clear hK hI
    obtain ⟨pl,⟨t,m,q⟩,a,n⟩:=x
    obtain ⟨T,hT⟩:∃ T,strB t=T:=⟨_,rfl⟩
    have HA0:Hid _:=ha0
    rw [ha0]
    simp only [encs,encE,hT,List.zip_toArray,List.zip_cons_cons,List.zip_nil_right,List.foldl_toArray,List.foldl_cons,List.foldl_nil,List.setIfInBounds_toArray,List.set_cons_zero,List.set_cons_succ]
    clear ha0
    gi_wp2
    refine HKK.out _ _ ((Below.refl _ W).alloc (Nat.le_refl _) _) ⟨W.heap.size,?_,?_⟩
    · rw [HA0.out,← hT]; rfl
    · rw [hT]; exact one_alloc W _
  case body =>
    rintro ll pre x a' W hll hpre ⟨hI,hR,hX,hb,hpi⟩ ⟨kk,ha',hrow⟩
    have hmem:x ∈ LM.entsFrom 0 0 l:=hpre.subset (by simp)
    obtain ⟨jj,hjj,hx⟩:=ents_pl l x hmem
    have HX0:Hid (x.begin=LM.bsum (l.take x.place)):=by rw [hx]; rfl
    have HPP:Hid (x.place ≠ i → ∀ y ∈ pre ++ [x],y.place ≠ i):=fun hne y hy=>by
      rcases List.mem_append.1 hy with h | h
      · exact hpi y h
      · rw [List.mem_singleton.1 h]; exact hne
    clear hx hmem hjj hpi
    obtain ⟨pl,⟨t,m,q⟩,a,n⟩:=x
    simp only at HX0 HPP
    obtain ⟨T,hT⟩:∃ T,strB t=T:=⟨_,rfl⟩
    simp only [encE,hT] at ha' hrow
    have HI:Hid _:=hI
    have HR:Hid _:=hR
    have HXX:Hid _:=hX
    have HB:Hid (Below w.heap.size w W):=hb
    obtain ⟨i0,if0⟩:=row1 hI
    obtain ⟨r0,rf0⟩:=row1 hR
    obtain ⟨k0,k1,k2,k3,k4,kf⟩:=row5 hrow
    rw [ha',ha0]
    simp only [List.setIfInBounds_toArray,List.set_cons_zero,List.set_cons_succ]
    by_cases hpe:(pl:Int)=(i:Int)
    · have hpt:((pl:Int) == (i:Int))=true:=by simpa using hpe
      have HPE:Hid (pl=i):=by show _=_; omega
      clear ha' ha0 hI hR hX hb hpre hpe
      gi_wp2
      have hdis:=HDIS.out
      refine ⟨KA.setCell _ _ _ (by show kb < kb + 1; omega),rfl,?_,HB.out.setCell (p:=⟨kb,0,none⟩) (by show w.heap.size ≤ kb; omega) _⟩
      rw [heap_setCell_same _ _ _ _ _ _ HR.out]
      rw [HX0.out,HPE.out]; rfl
    · have hpf:((pl:Int) == (i:Int))=false:=by simpa using hpe
      have HPL:Hid (pl ≠ i):=fun h=>hpe (by rw [h])
      clear ha' ha0 hI hR hX hb hpre hpe
      gi_wp2
      exact ⟨KA.refl _ _,HI.out,HR.out,HXX.out,HB.out,HPP.out HPL.out⟩
  case stop =>
    rintro D cd pre W hD hpre ⟨rfl,hr,hb⟩ hDr
    rw [ha0]
    obtain ⟨r0,rf0⟩:=row1 hr
    have HR:Hid _:=hr
    have HDR:Hid _:=hDr
    have HB:Hid (Below w.heap.size w W):=hb
    clear ha0 hb hDr hr
    refine wpB_of (n:=10) ?_
    gi_wp2
    refine wpB_then (n:=10) ?_
    gi_wp2
    refine wpB_of (n:=10) ?_
    gi_wp2
    refine ⟨by simp,.inl ⟨_,_,rfl,run_takeDeferred HDR.out,?_⟩⟩
    refine ⟨.int .i64 (LM.bsum (l.take i):Nat),?_,rfl,put_below HB.out (by have:=HB5.out.size; omega)⟩
    simp [results,Tryz.results133,go_sem]
  case done =>
    rintro D W hD _ ⟨hI,hR,hX,hb,hpi⟩ hDr
    obtain ⟨y,hy,hyi⟩:=ents_mem l i hi
    exact absurd hyi (hpi y hy)
set_option maxHeartbeats 1000000 in
set_option maxRecDepth 100000 in
theorem begin_b (l:List LM.Item) (hl:∀ it ∈ l,LM.Wf it) (hs:LM.bsum l ≤ 1073741824) (i:Nat) (hi:i < l.length) (hh:l.length / 2 < i) (w:World) (hw:Lay w) :
    Calls Tryz.prog 133 #[.agg #[.string (strB (LM.bodyOf l)),.int .i64 (l.length:Int)],.int .i64 i] w fun e w'=>e=.returned (.int .i64 (LM.bsum (l.take i):Nat))∧Below w.heap.size w w':=by
  have HW:Hid (Lay w):=hw
  have hBs:(strB (LM.bodyOf l)).size=LM.bsum l:=by rw [strB_size,LM.bodyOf_len]
  have HBL:Hid ((strB (LM.bodyOf l)).data.toList=LM.bodyOf l):=strB_list _
  have hge:=LM.bsum_ge l
  generalize strB (LM.bodyOf l)=Bo at *
  have hne:((i:Int) == (l.length:Int))=false:=by simp; omega
  have hnl:¬ ((i:Int)=(l.length:Int)):=by omega
  have hdh:decide ((l.length:Int) / 2 < (i:Int))=true:=by simp; omega
  have hdt:Int.tdiv (l.length:Int) 2=(l.length:Int) / 2:=Int.tdiv_eq_ediv_of_nonneg (by omega)
  clear hw
  refine calls_of_wpB (n:=10) Tryz.func133 rfl ?_
  simp only [Tryz.ntmps133,List.size_toArray,List.length_cons,List.length_nil,Nat.reduceAdd,Nat.reduceSub,Array.replicate_succ,Array.replicate_zero,List.push_toArray,List.append_toArray,List.nil_append,List.cons_append]
  refine wpB_then (n:=10) ?_
  gi_wp2
  obtain ⟨W1,hW1⟩:∃ W1,W1=(w.alloc (.cells #[.string Bo,.int .i64 (l.length:Int)] 131)).alloc (.cells #[.int .i64 (i:Int)] 3):=⟨_,rfl⟩
  have HB1:Hid (Below w.heap.size w W1):=by rw [hW1]; exact ((Below.refl _ w).alloc (Nat.le_refl _) _).alloc (by simp) _
  have HP1:Hid (W1.heap[w.heap.size]?=some (.cells #[.string Bo,.int .i64 (l.length:Int)] 131)):=by
    rw [hW1]; exact keep_row (one_alloc w _) ((Below.refl _ _).alloc (Nat.le_refl _) _)
  have HI1:Hid (W1.heap[w.heap.size + 1]?=some (.cells #[.int .i64 (i:Int)] 3)):=by
    rw [hW1]
    have:=one_alloc (w.alloc (.cells #[.string Bo,.int .i64 (l.length:Int)] 131)) (.cells #[.int .i64 (i:Int)] 3)
    rwa [World.size_alloc] at this
  rw [← hW1]
  clear hW1
  obtain ⟨p0,p1,pf⟩:=prow2 HP1.out
  obtain ⟨i0,if0⟩:=row1 HI1.out
  refine wpB_then (n:=10) ?_
  gi_wp2
  refine wpB_then (n:=10) ?_
  gi_wp2_with fail
  refine ⟨trivial,(callsIn_wide.2 (fwd_any Bo (l.length:Int) _)).mono ?_⟩
  rintro e w3 ⟨rfl,hw3⟩
  have HX3:Hid (w3.heap[W1.heap.size]?=some (.cells #[.string Bo,.int .i64 (l.length:Int)] 131)):=by rw [hw3]; exact one_alloc W1 _
  have HS3:Hid (w3.heap.size=W1.heap.size + 1):=by show _=_; rw [hw3,World.size_alloc]
  have hbw:Below W1.heap.size W1 w3:=by rw [hw3]; exact (Below.refl _ _).alloc (Nat.le_refl _) _
  have HP3:Hid _:=keep_row HP1.out hbw
  have HI3:Hid _:=keep_row HI1.out hbw
  have HB3:Hid (Below w.heap.size w w3):=bel_to HB1.out hbw (Nat.le_refl _)
  have hlt1:w.heap.size + 1 < W1.heap.size:=row_lt HI1.out
  clear hw3 hbw p0 p1 pf i0 if0
  obtain ⟨p0,p1,pf⟩:=prow2 HP3.out
  obtain ⟨i0,if0⟩:=row1 HI3.out
  gi_wp2
  refine wpB_then (n:=10) ?_
  gi_wp2_with fail
  refine ⟨trivial,(callsIn_wide.2 (bwd_any Bo (l.length:Int) _)).mono ?_⟩
  rintro e w4 ⟨rfl,hw4⟩
  obtain ⟨bx,hbx⟩:∃ bx,w3.heap.size=bx:=⟨_,rfl⟩
  rw [hbx]
  have HX4:Hid (w4.heap[bx]?=some (.cells #[.string Bo,.int .i64 (l.length:Int)] 131)):=by rw [hw4,← hbx]; exact one_alloc w3 _
  have HS4:Hid (w4.heap.size=w3.heap.size + 1):=by show _=_; rw [hw4,World.size_alloc]
  have hbw:Below w3.heap.size w3 w4:=by rw [hw4]; exact (Below.refl _ _).alloc (Nat.le_refl _) _
  have HP4:Hid _:=keep_row HP3.out hbw
  have HI4:Hid _:=keep_row HI3.out hbw
  have HB4:Hid (Below w.heap.size w w4):=bel_to HB3.out hbw (Nat.le_refl _)
  clear hw4 hbw p0 p1 pf i0 if0
  gi_wp2
  refine wpB_then (n:=10) ?_
  gi_wp2
  obtain ⟨w5,hw5⟩:∃ w5,w5=w4.alloc (.cells #[.int .i64 0] 3):=⟨_,rfl⟩
  rw [← hw5]
  obtain ⟨kb,hkb⟩:∃ kb,w4.heap.size=kb:=⟨_,rfl⟩
  rw [hkb]
  have HR5:Hid (w5.heap[kb]?=some (.cells #[.int .i64 0] 3)):=by rw [hw5,← hkb]; exact one_alloc w4 _
  have hs5:w5.heap.size=kb + 1:=by rw [hw5,World.size_alloc,hkb]
  have hbw:Below w4.heap.size w4 w5:=by rw [hw5]; exact (Below.refl _ _).alloc (Nat.le_refl _) _
  have HX5:Hid _:=keep_row HX4.out hbw
  have HI5:Hid _:=keep_row HI4.out hbw
  have HB5:Hid (Below w.heap.size w w5):=bel_to HB4.out hbw (Nat.le_refl _)
  clear hw5 hbw
  refine wpB_seq (wpB_then (n:=10) ?_)
  gi_wp2
  refine wpB_block ?_
  have hseq:=bwd_seq 9 l hl hs Bo HBL.out bx w5.heap.size
  have HDIS:Hid (bx < kb∧w.heap.size + 1 < kb∧w.heap.size + 1 < w5.heap.size):=by
    have h1:=row_lt HX4.out
    have h2:=row_lt HI4.out
    have h3:=row_lt HI5.out
    refine ⟨by omega,by omega,h3⟩
  have HSQ:Hid _:=hseq
  clear hseq
  refine WpB_act (fun a0 ha0=>?_)
  refine wpB_range (n:=10) (α:=LM.Ent) (encs:=encs) (L:=(LM.entsFrom 0 0 l).reverse) (bad:=false) (pch:=pch) (box:=Box Bo (l.length:Int) bx) Tryz.func133 (gf:=126) (lb:=#[.pointer (some ⟨bx,0,none⟩)]) (by rw [ha0]; rfl) (enters_of Tryz.func126 (by kernel_rfl) rfl) HSQ.out (fun _=>rfl)
    (fun pre W=>W.heap[w.heap.size + 1]?=some (.cells #[.int .i64 (i:Int)] 3)∧W.heap[kb]?=some (.cells #[.int .i64 0] 3)∧W.heap[bx]?=some (.cells #[.string Bo,.int .i64 (l.length:Int)] 131)∧Below w.heap.size w W∧∀ y ∈ pre,y.place ≠ i)
    (fun cd pre W=>cd=.exit 0∧W.heap[kb]?=some (.cells #[.int .i64 (LM.bsum (l.take i):Nat)] 3)∧Below w.heap.size w W)
    (fun _=>False)
    ?hI ?hIx (fun _ _ _ _ hs _ _=>hs) ?hbox ?h0
    (fun (x:LM.Ent) (a':Act) (W:World)=>∃ kk:Nat,a'={ tmps:=(((a0.tmps.setIfInBounds 26 (.int .i64 (x.place:Int))).setIfInBounds 27 (encE x.it x.begin x.span)).setIfInBounds 7 (.int .i64 (x.place:Int))).setIfInBounds 8 (.pointer (some ⟨kk,0,none⟩)),defers:=[] }∧W.heap[kk]?=some (.cells #[.string (strB x.it.txt),.int .i64 x.it.num,.bool x.it.isN,.int .i64 (x.begin:Int),.int .i64 (x.span:Int)] 159)) ?hAx ?assign ?body ?done ?stop ?pan
  case hI =>
    rintro s A B row ⟨h2,h3,h4,h5,h6⟩ hg hr
    exact ⟨own_row h2 hg hr,own_row h3 hg hr,own_row h4 hg hr,ownFrom_below (β:=Unit) (Nat.le_refl _) HB5.out.size () A B row h5 hg hr,h6⟩
  case hIx =>
    rintro cd s A B row ⟨h1,h2,h3⟩ hg hr
    exact ⟨h1,own_row h2 hg hr,ownFrom_below (β:=Unit) (Nat.le_refl _) HB5.out.size () A B row h3 hg hr⟩
  case hbox =>
    rintro pre W ⟨h2,h3,h4,h5,h6⟩
    exact ⟨h4,(HW.out.on h5).wid⟩
  case h0=>exact ⟨HI5.out,HR5.out,HX5.out,HB5.out,by simp⟩
  case hAx =>
    rintro x a' s A B row ⟨kk,h1,h2⟩ hg hr
    exact ⟨kk,h1,own_row h2 hg hr⟩
  case pan=>intro D W _ h; rcases h with h | ⟨h,_⟩; exact h.elim; cases h
  case assign =>
    intro ll pre x W K hpre hI hK
    have HKK:Hid _:=hK
    clear hK hI
    obtain ⟨pl,⟨t,m,q⟩,a,n⟩:=x
    obtain ⟨T,hT⟩:∃ T,strB t=T:=⟨_,rfl⟩
    have HA0:Hid _:=ha0
    rw [ha0]
    simp only [encs,encE,hT,List.zip_toArray,List.zip_cons_cons,List.zip_nil_right,List.foldl_toArray,List.foldl_cons,List.foldl_nil,List.setIfInBounds_toArray,List.set_cons_zero,List.set_cons_succ]
    clear ha0
    gi_wp2
    refine HKK.out _ _ ((Below.refl _ W).alloc (Nat.le_refl _) _) ⟨W.heap.size,?_,?_⟩
    · rw [HA0.out,← hT]; rfl
    · rw [hT]; exact one_alloc W _
  case body =>
    rintro ll pre x a' W hll hpre ⟨hI,hR,hX,hb,hpi⟩ ⟨kk,ha',hrow⟩
    have hmem:x ∈ LM.entsFrom 0 0 l:=List.mem_reverse.1 (hpre.subset (by simp))
    obtain ⟨jj,hjj,hx⟩:=ents_pl l x hmem
    have HX0:Hid (x.begin=LM.bsum (l.take x.place)):=by rw [hx]; rfl
    have HPP:Hid (x.place ≠ i → ∀ y ∈ pre ++ [x],y.place ≠ i):=fun hne y hy=>by
      rcases List.mem_append.1 hy with h | h
      · exact hpi y h
      · rw [List.mem_singleton.1 h]; exact hne
    clear hx hmem hjj hpi
    obtain ⟨pl,⟨t,m,q⟩,a,n⟩:=x
    simp only at HX0 HPP
    obtain ⟨T,hT⟩:∃ T,strB t=T:=⟨_,rfl⟩
    simp only [encE,hT] at ha' hrow
    have HI:Hid _:=hI
    have HR:Hid _:=hR
    have HXX:Hid _:=hX
    have HB:Hid (Below w.heap.size w W):=hb
    obtain ⟨i0,if0⟩:=row1 hI
    obtain ⟨r0,rf0⟩:=row1 hR
    obtain ⟨k0,k1,k2,k3,k4,kf⟩:=row5 hrow
    rw [ha',ha0]
    simp only [List.setIfInBounds_toArray,List.set_cons_zero,List.set_cons_succ]
    by_cases hpe:(pl:Int)=(i:Int)
    · have hpt:((pl:Int) == (i:Int))=true:=by simpa using hpe
      have HPE:Hid (pl=i):=by show _=_; omega
      clear ha' ha0 hI hR hX hb hpre hpe
      gi_wp2
      have hdis:=HDIS.out
      refine ⟨KA.setCell _ _ _ (by show kb < kb + 1; omega),rfl,?_,HB.out.setCell (p:=⟨kb,0,none⟩) (by show w.heap.size ≤ kb; omega) _⟩
      rw [heap_setCell_same _ _ _ _ _ _ HR.out]
      rw [HX0.out,HPE.out]; rfl
    · have hpf:((pl:Int) == (i:Int))=false:=by simpa using hpe
      have HPL:Hid (pl ≠ i):=fun h=>hpe (by rw [h])
      clear ha' ha0 hI hR hX hb hpre hpe
      gi_wp2
      exact ⟨KA.refl _ _,HI.out,HR.out,HXX.out,HB.out,HPP.out HPL.out⟩
  case stop =>
    rintro D cd pre W hD hpre ⟨rfl,hr,hb⟩ hDr
    rw [ha0]
    obtain ⟨r0,rf0⟩:=row1 hr
    have HR:Hid _:=hr
    have HDR:Hid _:=hDr
    have HB:Hid (Below w.heap.size w W):=hb
    clear ha0 hb hDr hr
    refine wpB_of (n:=10) ?_
    gi_wp2
    refine wpB_then (n:=10) ?_
    gi_wp2
    refine wpB_of (n:=10) ?_
    gi_wp2
    refine ⟨by simp,.inl ⟨_,_,rfl,run_takeDeferred HDR.out,?_⟩⟩
    refine ⟨.int .i64 (LM.bsum (l.take i):Nat),?_,rfl,put_below HB.out (by have:=HB5.out.size; omega)⟩
    simp [results,Tryz.results133,go_sem]
  case done =>
    rintro D W hD _ ⟨hI,hR,hX,hb,hpi⟩ hDr
    obtain ⟨y,hy,hyi⟩:=ents_mem l i hi
    exact absurd hyi (hpi y (List.mem_reverse.2 hy))
theorem begC_any (l:List LM.Item) (hl:∀ it ∈ l,LM.Wf it) (hs:LM.bsum l ≤ 1073741824):BegC l:=fun k hk W hW=>by
  by_cases h1:k=l.length
  · subst h1
    have:=begin_end (strB (LM.bodyOf l)) l.length W
    rw [strB_size,LM.bodyOf_len] at this
    rw [show LM.bsum (l.take l.length)=LM.bsum l by rw [List.take_length]]
    exact this
  · by_cases h2:k ≤ l.length / 2
    · exact begin_f l hl hs k (by omega) h2 W hW
    · exact begin_b l hl hs k (by omega) (by omega) W hW
end Go.Proofs.YtijambehfobopaaGreatDoor
namespace Go.Proofs.YtijambehfobopaaGreatDoor
open Go.RowKit
set_option linter.unusedVariables false
attribute [local go_sem] Oper.semAt_some
def encV (x:LM.Ent):Value:=.string (strB (LM.val x.it))
theorem rown_form {w:World} {base g k c:Nat} {xs:List Value} (h:w.ownsRow base 9 1 (.slice (some ⟨g,0,none⟩) k c) k xs):∃ cur,w.heap[g]?=some (.cells cur 9)∧cur.size=c∧cur.toList.take k=xs:=by
  obtain ⟨_,⟨h0,_⟩ | ⟨g',cap,cur,hv,hb,hg,h1,h2,h3,h4⟩⟩:=h
  · cases h0
  · injection hv with e1 e2 e3
    injection e1 with e1
    injection e1 with e1
    subst e1; subst e3
    exact ⟨cur,hg,by omega,by rwa [Nat.mul_one] at h4⟩
theorem rown_mk {w:World} {base g k c:Nat} {xs:List Value} {cur:Array Value} (hb:base ≤ g) (hk:k ≤ c) (hc:c ≤ maxLen) (hg:w.heap[g]?=some (.cells cur 9)) (hs:cur.size=c) (ht:cur.toList.take k=xs):w.ownsRow base 9 1 (.slice (some ⟨g,0,none⟩) k c) k xs:=by
  refine ⟨?_,Or.inr ⟨g,c,cur,rfl,hb,hg,hk,hc,by omega,by rwa [Nat.mul_one]⟩⟩
  rw [← ht,List.length_take,Array.length_toList]; omega
theorem KA.grown {B g:Nat} {W W':World} (h:W.grownBy W' (some g)) (hg:g < B):KA B W W':=
  ⟨h.size,fun k o hk e=>(h.block k (row_lt e) (fun x=>by injection x with x; omega)).trans e⟩
theorem opIn_append_fits {F:Fence} {n:Nat} {P:Program} (w:World) {o:Oper} {a:Act} {K:Act → World → Prop} {Q:Exit → Act → World → Prop}
    (s x:Operand) (t:TypeId) (hop:o.op=Op.call { callee:=Callee.builtin Builtin.append,args:=#[s,x],argTypes:=#[t,t] })
    (base:Nat) (e:TypeId) (i:TypeInfo) (size:Nat) (h1:P.underlying t=some (.slice e)) (h2:P.info? e=some i) (h4:i.size=size)
    (g k cap:Nat) (xs:List Value) (hs:a.eval s=.slice (some ⟨g,0,none⟩) k cap) (hown:w.ownsRow base e size (.slice (some ⟨g,0,none⟩) k cap) k xs) (ad:Addr) (m c:Nat) (news:List Value) (hx:a.eval x=.slice (some ad) m c) (hn:news.length=m * size)
    (hc:∀ j u,news[j]?=some u → w.cell? (ad.add j)=some u) (h1c:∀ u ∈ news,u.oneCell'=true) (b1:k + m ≤ cap)
    (hK:∀ w',w'.ownsRow base e size (.slice (some ⟨g,0,none⟩) (k + m) cap) (k + m) (xs ++ news) → w.grownBy w' (some g) → K (a.put o.dst (.slice (some ⟨g,0,none⟩) (k + m) cap)) w') :
    o.wpIn F n P a w K Q:=by
  obtain ⟨w',hrun,r1,r2⟩:=run_append_fits (P:=P) w base t o.type e i size h1 h2 h4 g k cap xs hown ad m c news hn hc h1c b1
  unfold Oper.wpIn
  refine ⟨?_,?_⟩
  · simp [Oper.about,hop,resolve,Target.leads,Sem.run_pure]
  · rw [Oper.semAt_plain F _ _ (by rw [hop]; intro c hc'; cases hc')]
    simp [execOp,hop,resolve,invoke,builtin,hs,hx,hrun,Oper.uponIn]
    exact hK w' r1 r2
theorem ents_vals (l:List LM.Item):(LM.entsFrom 0 0 l).map encV=l.map (fun it=>Value.string (strB (LM.val it))):=by
  have h:=LM.ents_items l 0 0
  have e:(LM.entsFrom 0 0 l).map encV=((LM.entsFrom 0 0 l).map LM.Ent.it).map (fun it=>Value.string (strB (LM.val it))):=by rw [List.map_map]; rfl
  rw [e,h]
set_option maxHeartbeats 2000000 in
set_option maxRecDepth 100000 in
theorem Walk_f (p:ByteArray) (l:List LM.Item) (hpk:LM.Pk p.data.toList l) (w:World) (hw:Lay w) :
    Calls Tryz.prog 90 #[.string p,.bool false] w fun e w'=>(∃ g,e=.returned (.tuple #[.slice (some ⟨g,0,none⟩) l.length l.length,.int .i64 0])∧w'.ownsRow w.heap.size 9 1 (.slice (some ⟨g,0,none⟩) l.length l.length) l.length (l.map (fun it=>Value.string (strB (LM.val it)))))∧Below w.heap.size w w':=by
  have HW:Hid (Lay w):=hw
  have HPK:Hid _:=hpk
  have hl:=hpk.wf
  have hlen:=hpk.len
  have hs:LM.bsum l ≤ 1073741824:=by have:=hpk.size; rw [hpk.eq,LM.build_len] at this; omega
  have hge:=LM.bsum_ge l
  have HRH:Hid (∀ W,Lay W → Calls Tryz.prog 88 #[.string p] W (rdP p W)):=fun W hW=>read_any p (by have:=hpk.size; rw [list_len] at this; omega) W hW
  obtain ⟨i9,hi9,hz0,hz1,hz2⟩:=info_parts info9
  have HI9:Hid (Tryz.prog.info? 9=some i9∧i9.zero=some (.string ⟨#[]⟩)∧i9.size=1∧i9.bytes=16):=⟨hi9,hz0,hz1,hz2⟩
  clear hi9 hz0 hz1 hz2
  have HVL:Hid (((LM.entsFrom 0 0 l)).map encV=l.map (fun it=>Value.string (strB (LM.val it)))):=by
    show _=_; exact ents_vals l
  have HLL:Hid (((LM.entsFrom 0 0 l)).length=l.length):=by show _=_; rw [LM.ents_len]
  clear hw hpk
  refine calls_of_wpB (n:=10) Tryz.func90 rfl ?_
  simp only [Tryz.ntmps90,List.size_toArray,List.length_cons,List.length_nil,Nat.reduceAdd,Nat.reduceSub,Array.replicate_succ,Array.replicate_zero,List.push_toArray,List.append_toArray,List.nil_append,List.cons_append]
  refine wpB_then (n:=10) ?_
  gi_wp2
  refine wpB_then (n:=10) ?_
  gi_wp2_with fail
  refine ⟨trivial,(callsIn_wide.2 (HRH.out _ HW.out)).mono ?_⟩
  rintro e w1 ⟨⟨l',hl',rfl⟩ | ⟨hno,rfl⟩,hb1⟩
  case inr=>exact absurd HPK.out (hno l)
  have he:=HPK.out.uniq hl'
  subst he
  have HB1:Hid (Below w.heap.size w w1):=hb1
  have hBs:(strB (LM.bodyOf l)).size=LM.bsum l:=by rw [strB_size,LM.bodyOf_len]
  have HBL:Hid ((strB (LM.bodyOf l)).data.toList=LM.bodyOf l):=strB_list _
  clear hb1 hl'
  generalize strB (LM.bodyOf l)=Bo at *
  gi_wp2
  obtain ⟨kp,hkp⟩:∃ kp,w1.heap.size=kp:=⟨_,rfl⟩
  obtain ⟨W1,hW1⟩:∃ W1,W1=w1.alloc (.cells #[.string Bo,.int .i64 (l.length:Int)] 131):=⟨_,rfl⟩
  rw [← hW1,hkp]
  have HB2:Hid (Below w.heap.size w W1):=by rw [hW1]; exact HB1.out.alloc HB1.out.size _
  have HP1:Hid (W1.heap[kp]?=some (.cells #[.string Bo,.int .i64 (l.length:Int)] 131)):=by rw [hW1,← hkp]; exact one_alloc w1 _
  have HG1:Hid (w.heap.size ≤ kp):=by rw [← hkp]; exact HB1.out.size
  clear hW1 hkp
  refine wpB_then (n:=10) ?_
  gi_wp2
  obtain ⟨p0,p1,pf⟩:=prow2 HP1.out
  refine wpB_then (n:=10) ?_
  gi_wp2_with fail
  refine ⟨trivial,(callsIn_wide.2 (fwd_any Bo (l.length:Int) _)).mono ?_⟩
  rintro e w3 ⟨rfl,hw3⟩
  obtain ⟨b1,hb1⟩:∃ b1,W1.heap.size=b1:=⟨_,rfl⟩
  rw [hb1]
  have HX3:Hid (w3.heap[b1]?=some (.cells #[.string Bo,.int .i64 (l.length:Int)] 131)):=by rw [hw3,← hb1]; exact one_alloc W1 _
  have hbw:Below W1.heap.size W1 w3:=by rw [hw3]; exact (Below.refl _ _).alloc (Nat.le_refl _) _
  have HP3:Hid _:=keep_row HP1.out hbw
  have HB3:Hid (Below w.heap.size w w3):=bel_to HB2.out hbw (Nat.le_refl _)
  clear hw3 hbw p0 p1 pf hb1
  obtain ⟨p0,p1,pf⟩:=prow2 HP3.out
  gi_wp2
  refine wpB_then (n:=10) ?_
  gi_wp2
  obtain ⟨w4,hw4⟩:∃ w4,w4=w3:=⟨_,rfl⟩
  obtain ⟨bx,hbx⟩:∃ bx,bx=b1:=⟨_,rfl⟩
  rw [← hw4,← hbx]
  have HX4:Hid (w4.heap[bx]?=some (.cells #[.string Bo,.int .i64 (l.length:Int)] 131)):=by rw [hw4,hbx]; exact HX3.out
  have HP4:Hid (w4.heap[kp]?=some (.cells #[.string Bo,.int .i64 (l.length:Int)] 131)):=by rw [hw4]; exact HP3.out
  have HB4:Hid (Below w.heap.size w w4):=by rw [hw4]; exact HB3.out
  clear hw4 p0 p1 pf hbx
  obtain ⟨p0,p1,pf⟩:=prow2 HP4.out
  refine wpB_then (n:=10) ?_
  gi_wp2_with (gi_at_make; refine wpListIn_make_own _ rfl _ _ 22 rfl w.heap.size 9 i9 (.string ⟨#[]⟩) 1 Tryz.underlying22 HI9.out.1 HI9.out.2.1 HI9.out.2.2.1 .i64 .i64 (l.length:Int) l.length rfl rfl rfl (by rw [HI9.out.2.2.2]; omega) (by unfold maxLen; omega) HB4.out.size ?_; intro w5 hown5 hgrow5)
  obtain ⟨g,hg⟩:∃ g,w4.heap.size=g:=⟨_,rfl⟩
  obtain ⟨kl,hkl⟩:∃ kl,w5.heap.size=kl:=⟨_,rfl⟩
  obtain ⟨w6,hw6⟩:∃ w6,w6=w5.alloc (.cells #[.slice (some ⟨w4.heap.size,0,none⟩) 0 l.length] 22):=⟨_,rfl⟩
  rw [← hw6,hkl]
  rw [hg] at hw6 hown5 ⊢
  have HB5:Hid (Below w.heap.size w w5):=HB4.out.grown hgrow5 HB4.out.size (fun k hk=>by cases hk)
  have HX5:Hid _:=keep_row HX4.out ((Below.refl _ w4).grown hgrow5 (Nat.le_refl _) (fun k hk=>by cases hk))
  have HG5:Hid _:=rown_form hown5
  have hbw:Below w5.heap.size w5 w6:=by rw [hw6]; exact (Below.refl _ _).alloc (Nat.le_refl _) _
  have HB6:Hid (Below w.heap.size w w6):=bel_to HB5.out hbw (Nat.le_refl _)
  have HX6:Hid _:=keep_row HX5.out hbw
  have HG6:Hid (∃ cur,w6.heap[g]?=some (.cells cur 9)∧cur.size=l.length∧cur.toList.take 0=[]):=by
    obtain ⟨cur,h1,h2,h3⟩:=HG5.out
    exact ⟨cur,keep_row h1 hbw,h2,h3⟩
  have HK6:Hid (w6.heap[kl]?=some (.cells #[.slice (some ⟨g,0,none⟩) 0 l.length] 22)):=by rw [hw6,← hkl]; exact one_alloc w5 _
  have HD6:Hid (w.heap.size ≤ g∧g < w6.heap.size∧w.heap.size ≤ kl∧kl < w6.heap.size∧g ≠ kl∧bx ≠ g∧bx ≠ kl):=by
    obtain ⟨cur,h1,_,_⟩:=HG5.out
    have h2:=row_lt h1
    have h3:=row_lt HK6.out
    have h4:=HB4.out.size
    have h5:=HB5.out.size
    have h6:=hbw.size
    have h7:=row_lt HX4.out
    refine ⟨by omega,by omega,by omega,h3,by omega,by omega,by omega⟩
  clear hw6 hbw hown5 hgrow5 hg hkl p0 p1 pf
  refine wpB_seq (wpB_then (n:=10) ?_)
  gi_wp2
  refine wpB_block ?_
  have hseq:=fwd_seq 9 Bo (l.length:Int) bx (l.length + LM.bsum l + 1) w6.heap.size (by omega) (by omega)
  rw [HBL.out,LM.parse_body l _ 0 0 hl (by omega)] at hseq
  have HSQ:Hid _:=hseq
  clear hseq
  refine WpB_act (fun a0 ha0=>?_)
  refine wpB_range (n:=10) (α:=LM.Ent) (encs:=encs) (L:=(LM.entsFrom 0 0 l)) (bad:=false) (pch:=pch) (box:=Box Bo (l.length:Int) bx) Tryz.func90 (gf:=119) (lb:=#[.pointer (some ⟨bx,0,none⟩)]) (by rw [ha0]; rfl) (enters_of Tryz.func119 (by kernel_rfl) rfl) HSQ.out (fun _=>rfl)
    (fun pre W=>(∃ cur,W.heap[g]?=some (.cells cur 9)∧cur.size=l.length∧cur.toList.take pre.length=pre.map encV)∧W.heap[kl]?=some (.cells #[.slice (some ⟨g,0,none⟩) pre.length l.length] 22)∧W.heap[bx]?=some (.cells #[.string Bo,.int .i64 (l.length:Int)] 131)∧Below w.heap.size w W)
    (fun cd pre W=>False)
    (fun _=>False)
    ?hI ?hIx (fun _ _ _ _ hs _ _=>hs) ?hbox ?h0
    (fun (x:LM.Ent) (a':Act) (W:World)=>∃ kk:Nat,a'={ tmps:=((a0.tmps.setIfInBounds 29 (.int .i64 (x.place:Int))).setIfInBounds 30 (encE x.it x.begin x.span)).setIfInBounds 11 (.pointer (some ⟨kk,0,none⟩)),defers:=[] }∧W.heap[kk]?=some (.cells #[.string (strB x.it.txt),.int .i64 x.it.num,.bool x.it.isN,.int .i64 (x.begin:Int),.int .i64 (x.span:Int)] 159)) ?hAx ?assign ?body ?done ?stop ?pan
  case hI =>
    rintro s A B row ⟨⟨cur,h1,h2,h3⟩,h4,h5,h6⟩ hg hr
    exact ⟨⟨cur,own_row h1 hg hr,h2,h3⟩,own_row h4 hg hr,own_row h5 hg hr,ownFrom_below (β:=Unit) (Nat.le_refl _) HB6.out.size () A B row h6 hg hr⟩
  case hIx=>rintro cd s A B row h hg hr; exact h
  case hbox =>
    rintro pre W ⟨h1,h2,h3,h4⟩
    exact ⟨h3,(HW.out.on h4).wid⟩
  case h0 =>
    obtain ⟨cur,h1,h2,h3⟩:=HG6.out
    exact ⟨⟨cur,h1,h2,h3⟩,HK6.out,HX6.out,HB6.out⟩
  case hAx =>
    rintro x a' s A B row ⟨kk,h1,h2⟩ hg hr
    exact ⟨kk,h1,own_row h2 hg hr⟩
  case pan=>intro D W _ h; rcases h with h | ⟨h,_⟩; exact h.elim; cases h
  case stop=>rintro D cd pre W hD hpre h hDr; exact h.elim
  case assign =>
    intro ll pre x W K hpre hI hK
    have HKK:Hid _:=hK
    clear hK hI
    obtain ⟨pl,⟨t,m,q⟩,a,n⟩:=x
    obtain ⟨T,hT⟩:∃ T,strB t=T:=⟨_,rfl⟩
    have HA0:Hid _:=ha0
    rw [ha0]
    simp only [encs,encE,hT,List.zip_toArray,List.zip_cons_cons,List.zip_nil_right,List.foldl_toArray,List.foldl_cons,List.foldl_nil,List.setIfInBounds_toArray,List.set_cons_zero,List.set_cons_succ]
    clear ha0
    gi_wp2
    refine HKK.out _ _ ((Below.refl _ W).alloc (Nat.le_refl _) _) ⟨W.heap.size,?_,?_⟩
    · rw [HA0.out,← hT]; rfl
    · rw [hT]; exact one_alloc W _
  case body =>
    rintro ll pre x a' W hll hpre ⟨⟨cur,hG,hGs,hGt⟩,hK,hX,hb⟩ ⟨kk,ha',hrow⟩
    have hmem:x ∈ LM.entsFrom 0 0 l:=hpre.subset (by simp)
    have hlp:pre.length + 1 ≤ l.length:=by
      have:=hpre.length_le
      rw [HLL.out,List.length_append] at this; simpa using this
    obtain ⟨jj,hjj,hx⟩:=ents_pl l x hmem
    have hwf:LM.Wf x.it:=by rw [hx]; exact hl _ (List.getElem_mem hjj)
    have HVA:Hid (∀ W,Laid W → Calls Tryz.prog 110 #[.agg #[.string (strB x.it.txt),.int .i64 x.it.num,.bool x.it.isN]] W fun e w'=>e=.returned (.string (strB (LM.val x.it)))∧Below W.heap.size W w'):=fun W hW=>value_any x.it hwf W hW
    clear hx hmem hjj hwf
    have HVX:Hid (encV x=.string (strB (LM.val x.it))):=rfl
    obtain ⟨pl,⟨t,m,q⟩,a,n⟩:=x
    simp only at HVA HVX
    generalize strB (LM.val ⟨t,m,q⟩)=VV at *
    obtain ⟨T,hT⟩:∃ T,strB t=T:=⟨_,rfl⟩
    simp only [encE,hT] at ha' hrow HVA
    have HXX:Hid _:=hX
    have HB:Hid (Below w.heap.size w W):=hb
    have hKd:W.drew.heap[kl]?=some (.cells #[.slice (some ⟨g,0,none⟩) pre.length l.length] 22):=hK
    have hGd:W.drew.heap[g]?=some (.cells cur 9):=hG
    obtain ⟨i0,if0⟩:=row1 hK
    obtain ⟨k0,k1,k2,k3,k4,kf⟩:=row5 hrow
    have hlay:Laid W.drew:=(HW.out.on (below_dn hb 1)).laid
    have HC:Hid (cur.size=l.length∧cur.toList.take pre.length=pre.map encV∧pre.length ≤ l.length∧l.length ≤ maxLen∧w.heap.size ≤ g∧g ≠ kl∧pre.length + 1 ≤ l.length):=⟨hGs,hGt,by omega,by unfold maxLen; omega,HD6.out.1,HD6.out.2.2.2.2.1,hlp⟩
    have hmx:Tryz.prog.follows .mixedOrders=true:=by kernel_rfl
    have hi9:=HI9.out.1
    have hz1:=HI9.out.2.2.1
    rw [ha',ha0]
    simp only [List.setIfInBounds_toArray,List.set_cons_zero,List.set_cons_succ]
    clear ha' ha0 hX hb hpre hG hGs hGt hK hlp
    gi_wp2_with fail
    refine wpIn_region_any (by kernel_rfl) ?_
    change wpAnyIn _ _ _ _ _ _ _ _ _ W.drew
    refine wpAnyIn_ready (rs:=[0,1]) (by kernel_rfl) (by simp) ?_
    refine AllReadyIn.cons rfl (fun K hK=>?_) (AllReadyIn.cons rfl (fun K hK=>?_) AllReadyIn.nil)
    · go_simp
      refine hK _ _ ?_; clear hK K
      refine wpAnyIn_ready (rs:=[1]) (by kernel_rfl) (by simp) ?_
      refine AllReadyIn.cons rfl (fun K hK=>?_) AllReadyIn.nil
      go_simp
      refine hK _ _ ?_; clear hK K
      refine wpAnyIn_ready (rs:=[2]) (by kernel_rfl) (by simp) ?_
      refine AllReadyIn.cons rfl (fun K hK=>?_) AllReadyIn.nil
      go_simp
      refine hK _ _ ?_; clear hK K
      refine wpAnyIn_ready (rs:=[3]) (by kernel_rfl) (by simp) ?_
      refine AllReadyIn.cons rfl (fun K hK=>?_) AllReadyIn.nil
      go_simp
      gi_wp2_with ((refine ⟨trivial,?_⟩; gi_at_call 110; refine (CallsIn.inRound ll (callsIn_wide.2 (HVA.out _ hlay))).mono ?_; rintro e w5 ⟨rfl,hb5⟩; have hK5:=keep_row hKd hb5; have hG5:=keep_row hGd hb5; have HB5':Hid (Below W.drew.heap.size W.drew w5):=hb5; have HK5a:Hid ((w5.alloc (.cells #[.string VV] 9)).heap[kl]?=some (.cells #[.slice (some ⟨g,0,none⟩) pre.length l.length] 22)):=keep_row hK5 ((Below.refl _ w5).alloc (Nat.le_refl _) _); obtain ⟨i0,if0⟩:=row1 hK5; obtain ⟨i5,if5⟩:=row1 HK5a.out; clear hb5 hlay))
      refine wpAnyIn_ready (rs:=[4]) (by kernel_rfl) (by simp) ?_
      refine AllReadyIn.cons rfl (fun K hK=>?_) AllReadyIn.nil
      go_simp
      refine hK _ _ ?_; clear hK K
      refine wpAnyIn_ready (rs:=[5]) (by kernel_rfl) (by simp) ?_
      refine AllReadyIn.cons rfl (fun K hK=>?_) AllReadyIn.nil
      rw [if_pos (by rfl)]
      refine opIn_append_fits _ _ _ 22 rfl w.heap.size 9 i9 1 Tryz.underlying22 hi9 hz1 g pre.length l.length (pre.map encV) rfl (rown_mk HC.out.2.2.2.2.1 HC.out.2.2.1 HC.out.2.2.2.1 (keep_row hG5 ((Below.refl _ w5).alloc (Nat.le_refl _) _)) HC.out.1 HC.out.2.1) ⟨w5.heap.size,0,none⟩ 1 1 [.string VV] rfl rfl (cell_one_new _ _ _) (by simp [Value.oneCell']) HC.out.2.2.2.2.2.2 ?_
      intro w7 hown7 hgrow7
      refine hK _ _ ?_; clear hK K
      have hK7:w7.heap[kl]?=some (.cells #[.slice (some ⟨g,0,none⟩) pre.length l.length] 22):=(hgrow7.block kl (row_lt HK5a.out) (fun x=>by injection x with x; exact HC.out.2.2.2.2.2.1 x.symm)).trans HK5a.out
      obtain ⟨i7,if7⟩:=row1 hK7
      have HGR:Hid _:=hgrow7
      have HOW7:Hid _:=hown7
      clear hgrow7 hown7 i0 if0 i5 if5
      refine wpAnyIn_ready (rs:=[6]) (by kernel_rfl) (by simp) ?_
      refine AllReadyIn.cons rfl (fun K hK=>?_) AllReadyIn.nil
      go_simp
      refine hK _ _ ?_; clear hK K
      refine wpAnyIn_done (by kernel_rfl) ?_ _
      gi_wp2
      have hd:=HD6.out
      have hbwx:Below W.heap.size W w5:=(below_dn (Below.refl _ W) 1).trans HB5'.out
      have hbwa:Below W.heap.size W (w5.alloc (.cells #[.string VV] 9)):=hbwx.alloc hbwx.size _
      refine ⟨((KA.of_below hbwa).trans (KA.grown HGR.out hd.2.1)).trans (KA.setCell _ _ _ hd.2.2.2.1),?_,?_,?_,?_⟩
      · obtain ⟨cur',q1,q2,q3⟩:=rown_form HOW7.out
        refine ⟨cur',(heap_setCell_other _ _ _ _ hd.2.2.2.2.1).trans q1,q2,?_⟩
        rw [List.length_append,List.map_append]
        simpa [HVX.out] using q3
      · rw [heap_setCell_same _ _ _ _ _ _ hK7,List.length_append]; rfl
      · refine (heap_setCell_other _ _ _ _ hd.2.2.2.2.2.2).trans ?_
        exact (HGR.out.block bx (row_lt (keep_row HXX.out hbwa)) (fun x=>by injection x with x; exact hd.2.2.2.2.2.1 x)).trans (keep_row HXX.out hbwa)
      · exact ((bel_to HB.out hbwa (Nat.le_refl _)).grown HGR.out (Nat.le_trans HB.out.size hbwa.size) (fun k hk=>by injection hk with hk; rw [← hk]; exact hd.1)).setCell (p:=⟨kl,0,none⟩) hd.2.2.1 _
    · go_simp
      refine hK _ _ ?_; clear hK K
      refine wpAnyIn_ready (rs:=[0,2]) (by kernel_rfl) (by simp) ?_
      refine AllReadyIn.cons rfl (fun K hK=>?_) (AllReadyIn.cons rfl (fun K hK=>?_) AllReadyIn.nil)
      · go_simp
        refine hK _ _ ?_; clear hK K
        refine wpAnyIn_ready (rs:=[2]) (by kernel_rfl) (by simp) ?_
        refine AllReadyIn.cons rfl (fun K hK=>?_) AllReadyIn.nil
        go_simp
        refine hK _ _ ?_; clear hK K
        refine wpAnyIn_ready (rs:=[3]) (by kernel_rfl) (by simp) ?_
        refine AllReadyIn.cons rfl (fun K hK=>?_) AllReadyIn.nil
        go_simp
        gi_wp2_with ((refine ⟨trivial,?_⟩; gi_at_call 110; refine (CallsIn.inRound ll (callsIn_wide.2 (HVA.out _ hlay))).mono ?_; rintro e w5 ⟨rfl,hb5⟩; have hK5:=keep_row hKd hb5; have hG5:=keep_row hGd hb5; have HB5':Hid (Below W.drew.heap.size W.drew w5):=hb5; have HK5a:Hid ((w5.alloc (.cells #[.string VV] 9)).heap[kl]?=some (.cells #[.slice (some ⟨g,0,none⟩) pre.length l.length] 22)):=keep_row hK5 ((Below.refl _ w5).alloc (Nat.le_refl _) _); obtain ⟨i0,if0⟩:=row1 hK5; obtain ⟨i5,if5⟩:=row1 HK5a.out; clear hb5 hlay))
        refine wpAnyIn_ready (rs:=[4]) (by kernel_rfl) (by simp) ?_
        refine AllReadyIn.cons rfl (fun K hK=>?_) AllReadyIn.nil
        go_simp
        refine hK _ _ ?_; clear hK K
        refine wpAnyIn_ready (rs:=[5]) (by kernel_rfl) (by simp) ?_
        refine AllReadyIn.cons rfl (fun K hK=>?_) AllReadyIn.nil
        rw [if_pos (by rfl)]
        refine opIn_append_fits _ _ _ 22 rfl w.heap.size 9 i9 1 Tryz.underlying22 hi9 hz1 g pre.length l.length (pre.map encV) rfl (rown_mk HC.out.2.2.2.2.1 HC.out.2.2.1 HC.out.2.2.2.1 (keep_row hG5 ((Below.refl _ w5).alloc (Nat.le_refl _) _)) HC.out.1 HC.out.2.1) ⟨w5.heap.size,0,none⟩ 1 1 [.string VV] rfl rfl (cell_one_new _ _ _) (by simp [Value.oneCell']) HC.out.2.2.2.2.2.2 ?_
        intro w7 hown7 hgrow7
        refine hK _ _ ?_; clear hK K
        have hK7:w7.heap[kl]?=some (.cells #[.slice (some ⟨g,0,none⟩) pre.length l.length] 22):=(hgrow7.block kl (row_lt HK5a.out) (fun x=>by injection x with x; exact HC.out.2.2.2.2.2.1 x.symm)).trans HK5a.out
        obtain ⟨i7,if7⟩:=row1 hK7
        have HGR:Hid _:=hgrow7
        have HOW7:Hid _:=hown7
        clear hgrow7 hown7 i0 if0 i5 if5
        refine wpAnyIn_ready (rs:=[6]) (by kernel_rfl) (by simp) ?_
        refine AllReadyIn.cons rfl (fun K hK=>?_) AllReadyIn.nil
        go_simp
        refine hK _ _ ?_; clear hK K
        refine wpAnyIn_done (by kernel_rfl) ?_ _
        gi_wp2
        have hd:=HD6.out
        have hbwx:Below W.heap.size W w5:=(below_dn (Below.refl _ W) 1).trans HB5'.out
        have hbwa:Below W.heap.size W (w5.alloc (.cells #[.string VV] 9)):=hbwx.alloc hbwx.size _
        refine ⟨((KA.of_below hbwa).trans (KA.grown HGR.out hd.2.1)).trans (KA.setCell _ _ _ hd.2.2.2.1),?_,?_,?_,?_⟩
        · obtain ⟨cur',q1,q2,q3⟩:=rown_form HOW7.out
          refine ⟨cur',(heap_setCell_other _ _ _ _ hd.2.2.2.2.1).trans q1,q2,?_⟩
          rw [List.length_append,List.map_append]
          simpa [HVX.out] using q3
        · rw [heap_setCell_same _ _ _ _ _ _ hK7,List.length_append]; rfl
        · refine (heap_setCell_other _ _ _ _ hd.2.2.2.2.2.2).trans ?_
          exact (HGR.out.block bx (row_lt (keep_row HXX.out hbwa)) (fun x=>by injection x with x; exact hd.2.2.2.2.2.1 x)).trans (keep_row HXX.out hbwa)
        · exact ((bel_to HB.out hbwa (Nat.le_refl _)).grown HGR.out (Nat.le_trans HB.out.size hbwa.size) (fun k hk=>by injection hk with hk; rw [← hk]; exact hd.1)).setCell (p:=⟨kl,0,none⟩) hd.2.2.1 _
      · go_simp
        refine hK _ _ ?_; clear hK K
        refine wpAnyIn_ready (rs:=[0,3]) (by kernel_rfl) (by simp) ?_
        refine AllReadyIn.cons rfl (fun K hK=>?_) (AllReadyIn.cons rfl (fun K hK=>?_) AllReadyIn.nil)
        · go_simp
          refine hK _ _ ?_; clear hK K
          refine wpAnyIn_ready (rs:=[3]) (by kernel_rfl) (by simp) ?_
          refine AllReadyIn.cons rfl (fun K hK=>?_) AllReadyIn.nil
          go_simp
          gi_wp2_with ((refine ⟨trivial,?_⟩; gi_at_call 110; refine (CallsIn.inRound ll (callsIn_wide.2 (HVA.out _ hlay))).mono ?_; rintro e w5 ⟨rfl,hb5⟩; have hK5:=keep_row hKd hb5; have hG5:=keep_row hGd hb5; have HB5':Hid (Below W.drew.heap.size W.drew w5):=hb5; have HK5a:Hid ((w5.alloc (.cells #[.string VV] 9)).heap[kl]?=some (.cells #[.slice (some ⟨g,0,none⟩) pre.length l.length] 22)):=keep_row hK5 ((Below.refl _ w5).alloc (Nat.le_refl _) _); obtain ⟨i0,if0⟩:=row1 hK5; obtain ⟨i5,if5⟩:=row1 HK5a.out; clear hb5 hlay))
          refine wpAnyIn_ready (rs:=[4]) (by kernel_rfl) (by simp) ?_
          refine AllReadyIn.cons rfl (fun K hK=>?_) AllReadyIn.nil
          go_simp
          refine hK _ _ ?_; clear hK K
          refine wpAnyIn_ready (rs:=[5]) (by kernel_rfl) (by simp) ?_
          refine AllReadyIn.cons rfl (fun K hK=>?_) AllReadyIn.nil
          rw [if_pos (by rfl)]
          refine opIn_append_fits _ _ _ 22 rfl w.heap.size 9 i9 1 Tryz.underlying22 hi9 hz1 g pre.length l.length (pre.map encV) rfl (rown_mk HC.out.2.2.2.2.1 HC.out.2.2.1 HC.out.2.2.2.1 (keep_row hG5 ((Below.refl _ w5).alloc (Nat.le_refl _) _)) HC.out.1 HC.out.2.1) ⟨w5.heap.size,0,none⟩ 1 1 [.string VV] rfl rfl (cell_one_new _ _ _) (by simp [Value.oneCell']) HC.out.2.2.2.2.2.2 ?_
          intro w7 hown7 hgrow7
          refine hK _ _ ?_; clear hK K
          have hK7:w7.heap[kl]?=some (.cells #[.slice (some ⟨g,0,none⟩) pre.length l.length] 22):=(hgrow7.block kl (row_lt HK5a.out) (fun x=>by injection x with x; exact HC.out.2.2.2.2.2.1 x.symm)).trans HK5a.out
          obtain ⟨i7,if7⟩:=row1 hK7
          have HGR:Hid _:=hgrow7
          have HOW7:Hid _:=hown7
          clear hgrow7 hown7 i0 if0 i5 if5
          refine wpAnyIn_ready (rs:=[6]) (by kernel_rfl) (by simp) ?_
          refine AllReadyIn.cons rfl (fun K hK=>?_) AllReadyIn.nil
          go_simp
          refine hK _ _ ?_; clear hK K
          refine wpAnyIn_done (by kernel_rfl) ?_ _
          gi_wp2
          have hd:=HD6.out
          have hbwx:Below W.heap.size W w5:=(below_dn (Below.refl _ W) 1).trans HB5'.out
          have hbwa:Below W.heap.size W (w5.alloc (.cells #[.string VV] 9)):=hbwx.alloc hbwx.size _
          refine ⟨((KA.of_below hbwa).trans (KA.grown HGR.out hd.2.1)).trans (KA.setCell _ _ _ hd.2.2.2.1),?_,?_,?_,?_⟩
          · obtain ⟨cur',q1,q2,q3⟩:=rown_form HOW7.out
            refine ⟨cur',(heap_setCell_other _ _ _ _ hd.2.2.2.2.1).trans q1,q2,?_⟩
            rw [List.length_append,List.map_append]
            simpa [HVX.out] using q3
          · rw [heap_setCell_same _ _ _ _ _ _ hK7,List.length_append]; rfl
          · refine (heap_setCell_other _ _ _ _ hd.2.2.2.2.2.2).trans ?_
            exact (HGR.out.block bx (row_lt (keep_row HXX.out hbwa)) (fun x=>by injection x with x; exact hd.2.2.2.2.2.1 x)).trans (keep_row HXX.out hbwa)
          · exact ((bel_to HB.out hbwa (Nat.le_refl _)).grown HGR.out (Nat.le_trans HB.out.size hbwa.size) (fun k hk=>by injection hk with hk; rw [← hk]; exact hd.1)).setCell (p:=⟨kl,0,none⟩) hd.2.2.1 _
        · go_simp
          gi_wp2_with ((refine ⟨trivial,?_⟩; gi_at_call 110; refine (CallsIn.inRound ll (callsIn_wide.2 (HVA.out _ hlay))).mono ?_; rintro e w5 ⟨rfl,hb5⟩; have hK5:=keep_row hKd hb5; have hG5:=keep_row hGd hb5; have HB5':Hid (Below W.drew.heap.size W.drew w5):=hb5; have HK5a:Hid ((w5.alloc (.cells #[.string VV] 9)).heap[kl]?=some (.cells #[.slice (some ⟨g,0,none⟩) pre.length l.length] 22)):=keep_row hK5 ((Below.refl _ w5).alloc (Nat.le_refl _) _); obtain ⟨i0,if0⟩:=row1 hK5; obtain ⟨i5,if5⟩:=row1 HK5a.out; clear hb5 hlay))
          refine wpAnyIn_ready (rs:=[0,4]) (by kernel_rfl) (by simp) ?_
          refine AllReadyIn.cons rfl (fun K hK=>?_) (AllReadyIn.cons rfl (fun K hK=>?_) AllReadyIn.nil)
          · go_simp
            refine hK _ _ ?_; clear hK K
            refine wpAnyIn_ready (rs:=[4]) (by kernel_rfl) (by simp) ?_
            refine AllReadyIn.cons rfl (fun K hK=>?_) AllReadyIn.nil
            go_simp
            refine hK _ _ ?_; clear hK K
            refine wpAnyIn_ready (rs:=[5]) (by kernel_rfl) (by simp) ?_
            refine AllReadyIn.cons rfl (fun K hK=>?_) AllReadyIn.nil
            rw [if_pos (by rfl)]
            refine opIn_append_fits _ _ _ 22 rfl w.heap.size 9 i9 1 Tryz.underlying22 hi9 hz1 g pre.length l.length (pre.map encV) rfl (rown_mk HC.out.2.2.2.2.1 HC.out.2.2.1 HC.out.2.2.2.1 (keep_row hG5 ((Below.refl _ w5).alloc (Nat.le_refl _) _)) HC.out.1 HC.out.2.1) ⟨w5.heap.size,0,none⟩ 1 1 [.string VV] rfl rfl (cell_one_new _ _ _) (by simp [Value.oneCell']) HC.out.2.2.2.2.2.2 ?_
            intro w7 hown7 hgrow7
            refine hK _ _ ?_; clear hK K
            have hK7:w7.heap[kl]?=some (.cells #[.slice (some ⟨g,0,none⟩) pre.length l.length] 22):=(hgrow7.block kl (row_lt HK5a.out) (fun x=>by injection x with x; exact HC.out.2.2.2.2.2.1 x.symm)).trans HK5a.out
            obtain ⟨i7,if7⟩:=row1 hK7
            have HGR:Hid _:=hgrow7
            have HOW7:Hid _:=hown7
            clear hgrow7 hown7 i0 if0 i5 if5
            refine wpAnyIn_ready (rs:=[6]) (by kernel_rfl) (by simp) ?_
            refine AllReadyIn.cons rfl (fun K hK=>?_) AllReadyIn.nil
            go_simp
            refine hK _ _ ?_; clear hK K
            refine wpAnyIn_done (by kernel_rfl) ?_ _
            gi_wp2
            have hd:=HD6.out
            have hbwx:Below W.heap.size W w5:=(below_dn (Below.refl _ W) 1).trans HB5'.out
            have hbwa:Below W.heap.size W (w5.alloc (.cells #[.string VV] 9)):=hbwx.alloc hbwx.size _
            refine ⟨((KA.of_below hbwa).trans (KA.grown HGR.out hd.2.1)).trans (KA.setCell _ _ _ hd.2.2.2.1),?_,?_,?_,?_⟩
            · obtain ⟨cur',q1,q2,q3⟩:=rown_form HOW7.out
              refine ⟨cur',(heap_setCell_other _ _ _ _ hd.2.2.2.2.1).trans q1,q2,?_⟩
              rw [List.length_append,List.map_append]
              simpa [HVX.out] using q3
            · rw [heap_setCell_same _ _ _ _ _ _ hK7,List.length_append]; rfl
            · refine (heap_setCell_other _ _ _ _ hd.2.2.2.2.2.2).trans ?_
              exact (HGR.out.block bx (row_lt (keep_row HXX.out hbwa)) (fun x=>by injection x with x; exact hd.2.2.2.2.2.1 x)).trans (keep_row HXX.out hbwa)
            · exact ((bel_to HB.out hbwa (Nat.le_refl _)).grown HGR.out (Nat.le_trans HB.out.size hbwa.size) (fun k hk=>by injection hk with hk; rw [← hk]; exact hd.1)).setCell (p:=⟨kl,0,none⟩) hd.2.2.1 _
          · go_simp
            refine hK _ _ ?_; clear hK K
            refine wpAnyIn_ready (rs:=[0]) (by kernel_rfl) (by simp) ?_
            refine AllReadyIn.cons rfl (fun K hK=>?_) AllReadyIn.nil
            go_simp
            refine hK _ _ ?_; clear hK K
            refine wpAnyIn_ready (rs:=[5]) (by kernel_rfl) (by simp) ?_
            refine AllReadyIn.cons rfl (fun K hK=>?_) AllReadyIn.nil
            rw [if_pos (by rfl)]
            refine opIn_append_fits _ _ _ 22 rfl w.heap.size 9 i9 1 Tryz.underlying22 hi9 hz1 g pre.length l.length (pre.map encV) rfl (rown_mk HC.out.2.2.2.2.1 HC.out.2.2.1 HC.out.2.2.2.1 (keep_row hG5 ((Below.refl _ w5).alloc (Nat.le_refl _) _)) HC.out.1 HC.out.2.1) ⟨w5.heap.size,0,none⟩ 1 1 [.string VV] rfl rfl (cell_one_new _ _ _) (by simp [Value.oneCell']) HC.out.2.2.2.2.2.2 ?_
            intro w7 hown7 hgrow7
            refine hK _ _ ?_; clear hK K
            have hK7:w7.heap[kl]?=some (.cells #[.slice (some ⟨g,0,none⟩) pre.length l.length] 22):=(hgrow7.block kl (row_lt HK5a.out) (fun x=>by injection x with x; exact HC.out.2.2.2.2.2.1 x.symm)).trans HK5a.out
            obtain ⟨i7,if7⟩:=row1 hK7
            have HGR:Hid _:=hgrow7
            have HOW7:Hid _:=hown7
            clear hgrow7 hown7 i0 if0 i5 if5
            refine wpAnyIn_ready (rs:=[6]) (by kernel_rfl) (by simp) ?_
            refine AllReadyIn.cons rfl (fun K hK=>?_) AllReadyIn.nil
            go_simp
            refine hK _ _ ?_; clear hK K
            refine wpAnyIn_done (by kernel_rfl) ?_ _
            gi_wp2
            have hd:=HD6.out
            have hbwx:Below W.heap.size W w5:=(below_dn (Below.refl _ W) 1).trans HB5'.out
            have hbwa:Below W.heap.size W (w5.alloc (.cells #[.string VV] 9)):=hbwx.alloc hbwx.size _
            refine ⟨((KA.of_below hbwa).trans (KA.grown HGR.out hd.2.1)).trans (KA.setCell _ _ _ hd.2.2.2.1),?_,?_,?_,?_⟩
            · obtain ⟨cur',q1,q2,q3⟩:=rown_form HOW7.out
              refine ⟨cur',(heap_setCell_other _ _ _ _ hd.2.2.2.2.1).trans q1,q2,?_⟩
              rw [List.length_append,List.map_append]
              simpa [HVX.out] using q3
            · rw [heap_setCell_same _ _ _ _ _ _ hK7,List.length_append]; rfl
            · refine (heap_setCell_other _ _ _ _ hd.2.2.2.2.2.2).trans ?_
              exact (HGR.out.block bx (row_lt (keep_row HXX.out hbwa)) (fun x=>by injection x with x; exact hd.2.2.2.2.2.1 x)).trans (keep_row HXX.out hbwa)
            · exact ((bel_to HB.out hbwa (Nat.le_refl _)).grown HGR.out (Nat.le_trans HB.out.size hbwa.size) (fun k hk=>by injection hk with hk; rw [← hk]; exact hd.1)).setCell (p:=⟨kl,0,none⟩) hd.2.2.1 _
  case done =>
    rintro D W hD _ ⟨⟨cur,hG,hGs,hGt⟩,hK,hX,hb⟩ hDr
    rw [ha0]
    rw [HLL.out] at hGt hK
    rw [HVL.out] at hGt
    obtain ⟨i0,if0⟩:=row1 hK
    have HG:Hid _:=hG
    have HGT:Hid _:=hGt
    have HGS:Hid _:=hGs
    have HDR:Hid _:=hDr
    have HB:Hid (Below w.heap.size w W):=hb
    have HLM:Hid (l.length ≤ maxLen):=by show _ ≤ _; unfold maxLen; omega
    clear ha0 hX hb hDr hK hG hGt hGs
    refine wpB_then (n:=10) ?_
    gi_wp2
    refine wpB_of (n:=10) ?_
    gi_wp2
    refine ⟨by simp,.inl ⟨_,_,rfl,run_takeDeferred HDR.out,?_⟩⟩
    have h1:g ≠ D:=by rintro rfl; have:=HDR.out; rw [HG.out] at this; cases this
    refine ⟨.tuple #[.slice (some ⟨g,0,none⟩) l.length l.length,.int .i64 0],?_,⟨g,rfl,rown_mk HD6.out.1 (Nat.le_refl _) HLM.out (put_keep HG.out h1) HGS.out (by simpa using HGT.out)⟩,put_below HB.out (by have:=HB6.out.size; omega)⟩
    simp [results,Tryz.results90,go_sem]
set_option maxHeartbeats 2000000 in
set_option maxRecDepth 100000 in
theorem Walk_b (p:ByteArray) (l:List LM.Item) (hpk:LM.Pk p.data.toList l) (w:World) (hw:Lay w) :
    Calls Tryz.prog 90 #[.string p,.bool true] w fun e w'=>(∃ g,e=.returned (.tuple #[.slice (some ⟨g,0,none⟩) l.length l.length,.int .i64 0])∧w'.ownsRow w.heap.size 9 1 (.slice (some ⟨g,0,none⟩) l.length l.length) l.length (l.reverse.map (fun it=>Value.string (strB (LM.val it)))))∧Below w.heap.size w w':=by
  have HW:Hid (Lay w):=hw
  have HPK:Hid _:=hpk
  have hl:=hpk.wf
  have hlen:=hpk.len
  have hs:LM.bsum l ≤ 1073741824:=by have:=hpk.size; rw [hpk.eq,LM.build_len] at this; omega
  have hge:=LM.bsum_ge l
  have HRH:Hid (∀ W,Lay W → Calls Tryz.prog 88 #[.string p] W (rdP p W)):=fun W hW=>read_any p (by have:=hpk.size; rw [list_len] at this; omega) W hW
  obtain ⟨i9,hi9,hz0,hz1,hz2⟩:=info_parts info9
  have HI9:Hid (Tryz.prog.info? 9=some i9∧i9.zero=some (.string ⟨#[]⟩)∧i9.size=1∧i9.bytes=16):=⟨hi9,hz0,hz1,hz2⟩
  clear hi9 hz0 hz1 hz2
  have HVL:Hid (((LM.entsFrom 0 0 l).reverse).map encV=l.reverse.map (fun it=>Value.string (strB (LM.val it)))):=by
    show _=_; rw [List.map_reverse,ents_vals,List.map_reverse]
  have HLL:Hid (((LM.entsFrom 0 0 l).reverse).length=l.length):=by show _=_; rw [List.length_reverse,LM.ents_len]
  clear hw hpk
  refine calls_of_wpB (n:=10) Tryz.func90 rfl ?_
  simp only [Tryz.ntmps90,List.size_toArray,List.length_cons,List.length_nil,Nat.reduceAdd,Nat.reduceSub,Array.replicate_succ,Array.replicate_zero,List.push_toArray,List.append_toArray,List.nil_append,List.cons_append]
  refine wpB_then (n:=10) ?_
  gi_wp2
  refine wpB_then (n:=10) ?_
  gi_wp2_with fail
  refine ⟨trivial,(callsIn_wide.2 (HRH.out _ HW.out)).mono ?_⟩
  rintro e w1 ⟨⟨l',hl',rfl⟩ | ⟨hno,rfl⟩,hb1⟩
  case inr=>exact absurd HPK.out (hno l)
  have he:=HPK.out.uniq hl'
  subst he
  have HB1:Hid (Below w.heap.size w w1):=hb1
  have hBs:(strB (LM.bodyOf l)).size=LM.bsum l:=by rw [strB_size,LM.bodyOf_len]
  have HBL:Hid ((strB (LM.bodyOf l)).data.toList=LM.bodyOf l):=strB_list _
  clear hb1 hl'
  generalize strB (LM.bodyOf l)=Bo at *
  gi_wp2
  obtain ⟨kp,hkp⟩:∃ kp,w1.heap.size=kp:=⟨_,rfl⟩
  obtain ⟨W1,hW1⟩:∃ W1,W1=w1.alloc (.cells #[.string Bo,.int .i64 (l.length:Int)] 131):=⟨_,rfl⟩
  rw [← hW1,hkp]
  have HB2:Hid (Below w.heap.size w W1):=by rw [hW1]; exact HB1.out.alloc HB1.out.size _
  have HP1:Hid (W1.heap[kp]?=some (.cells #[.string Bo,.int .i64 (l.length:Int)] 131)):=by rw [hW1,← hkp]; exact one_alloc w1 _
  have HG1:Hid (w.heap.size ≤ kp):=by rw [← hkp]; exact HB1.out.size
  clear hW1 hkp
  refine wpB_then (n:=10) ?_
  gi_wp2
  obtain ⟨p0,p1,pf⟩:=prow2 HP1.out
  refine wpB_then (n:=10) ?_
  gi_wp2_with fail
  refine ⟨trivial,(callsIn_wide.2 (fwd_any Bo (l.length:Int) _)).mono ?_⟩
  rintro e w3 ⟨rfl,hw3⟩
  obtain ⟨b1,hb1⟩:∃ b1,W1.heap.size=b1:=⟨_,rfl⟩
  rw [hb1]
  have HX3:Hid (w3.heap[b1]?=some (.cells #[.string Bo,.int .i64 (l.length:Int)] 131)):=by rw [hw3,← hb1]; exact one_alloc W1 _
  have hbw:Below W1.heap.size W1 w3:=by rw [hw3]; exact (Below.refl _ _).alloc (Nat.le_refl _) _
  have HP3:Hid _:=keep_row HP1.out hbw
  have HB3:Hid (Below w.heap.size w w3):=bel_to HB2.out hbw (Nat.le_refl _)
  clear hw3 hbw p0 p1 pf hb1
  obtain ⟨p0,p1,pf⟩:=prow2 HP3.out
  gi_wp2
  refine wpB_then (n:=10) ?_
  gi_wp2_with fail
  refine ⟨trivial,(callsIn_wide.2 (bwd_any Bo (l.length:Int) _)).mono ?_⟩
  rintro e w4 ⟨rfl,hw4⟩
  obtain ⟨bx,hbx⟩:∃ bx,w3.heap.size=bx:=⟨_,rfl⟩
  rw [hbx]
  have HX4:Hid (w4.heap[bx]?=some (.cells #[.string Bo,.int .i64 (l.length:Int)] 131)):=by rw [hw4,← hbx]; exact one_alloc w3 _
  have hbw:Below w3.heap.size w3 w4:=by rw [hw4]; exact (Below.refl _ _).alloc (Nat.le_refl _) _
  have HP4:Hid _:=keep_row HP3.out hbw
  have HB4:Hid (Below w.heap.size w w4):=bel_to HB3.out hbw (Nat.le_refl _)
  clear hw4 hbw p0 p1 pf hbx
  gi_wp2
  obtain ⟨p0,p1,pf⟩:=prow2 HP4.out
  refine wpB_then (n:=10) ?_
  gi_wp2_with (gi_at_make; refine wpListIn_make_own _ rfl _ _ 22 rfl w.heap.size 9 i9 (.string ⟨#[]⟩) 1 Tryz.underlying22 HI9.out.1 HI9.out.2.1 HI9.out.2.2.1 .i64 .i64 (l.length:Int) l.length rfl rfl rfl (by rw [HI9.out.2.2.2]; omega) (by unfold maxLen; omega) HB4.out.size ?_; intro w5 hown5 hgrow5)
  obtain ⟨g,hg⟩:∃ g,w4.heap.size=g:=⟨_,rfl⟩
  obtain ⟨kl,hkl⟩:∃ kl,w5.heap.size=kl:=⟨_,rfl⟩
  obtain ⟨w6,hw6⟩:∃ w6,w6=w5.alloc (.cells #[.slice (some ⟨w4.heap.size,0,none⟩) 0 l.length] 22):=⟨_,rfl⟩
  rw [← hw6,hkl]
  rw [hg] at hw6 hown5 ⊢
  have HB5:Hid (Below w.heap.size w w5):=HB4.out.grown hgrow5 HB4.out.size (fun k hk=>by cases hk)
  have HX5:Hid _:=keep_row HX4.out ((Below.refl _ w4).grown hgrow5 (Nat.le_refl _) (fun k hk=>by cases hk))
  have HG5:Hid _:=rown_form hown5
  have hbw:Below w5.heap.size w5 w6:=by rw [hw6]; exact (Below.refl _ _).alloc (Nat.le_refl _) _
  have HB6:Hid (Below w.heap.size w w6):=bel_to HB5.out hbw (Nat.le_refl _)
  have HX6:Hid _:=keep_row HX5.out hbw
  have HG6:Hid (∃ cur,w6.heap[g]?=some (.cells cur 9)∧cur.size=l.length∧cur.toList.take 0=[]):=by
    obtain ⟨cur,h1,h2,h3⟩:=HG5.out
    exact ⟨cur,keep_row h1 hbw,h2,h3⟩
  have HK6:Hid (w6.heap[kl]?=some (.cells #[.slice (some ⟨g,0,none⟩) 0 l.length] 22)):=by rw [hw6,← hkl]; exact one_alloc w5 _
  have HD6:Hid (w.heap.size ≤ g∧g < w6.heap.size∧w.heap.size ≤ kl∧kl < w6.heap.size∧g ≠ kl∧bx ≠ g∧bx ≠ kl):=by
    obtain ⟨cur,h1,_,_⟩:=HG5.out
    have h2:=row_lt h1
    have h3:=row_lt HK6.out
    have h4:=HB4.out.size
    have h5:=HB5.out.size
    have h6:=hbw.size
    have h7:=row_lt HX4.out
    refine ⟨by omega,by omega,by omega,h3,by omega,by omega,by omega⟩
  clear hw6 hbw hown5 hgrow5 hg hkl p0 p1 pf
  refine wpB_seq (wpB_then (n:=10) ?_)
  gi_wp2
  refine wpB_block ?_
  have hseq:=bwd_seq 9 l hl hs Bo HBL.out bx w6.heap.size
  have HSQ:Hid _:=hseq
  clear hseq
  refine WpB_act (fun a0 ha0=>?_)
  refine wpB_range (n:=10) (α:=LM.Ent) (encs:=encs) (L:=(LM.entsFrom 0 0 l).reverse) (bad:=false) (pch:=pch) (box:=Box Bo (l.length:Int) bx) Tryz.func90 (gf:=126) (lb:=#[.pointer (some ⟨bx,0,none⟩)]) (by rw [ha0]; rfl) (enters_of Tryz.func126 (by kernel_rfl) rfl) HSQ.out (fun _=>rfl)
    (fun pre W=>(∃ cur,W.heap[g]?=some (.cells cur 9)∧cur.size=l.length∧cur.toList.take pre.length=pre.map encV)∧W.heap[kl]?=some (.cells #[.slice (some ⟨g,0,none⟩) pre.length l.length] 22)∧W.heap[bx]?=some (.cells #[.string Bo,.int .i64 (l.length:Int)] 131)∧Below w.heap.size w W)
    (fun cd pre W=>False)
    (fun _=>False)
    ?hI ?hIx (fun _ _ _ _ hs _ _=>hs) ?hbox ?h0
    (fun (x:LM.Ent) (a':Act) (W:World)=>∃ kk:Nat,a'={ tmps:=((a0.tmps.setIfInBounds 29 (.int .i64 (x.place:Int))).setIfInBounds 30 (encE x.it x.begin x.span)).setIfInBounds 11 (.pointer (some ⟨kk,0,none⟩)),defers:=[] }∧W.heap[kk]?=some (.cells #[.string (strB x.it.txt),.int .i64 x.it.num,.bool x.it.isN,.int .i64 (x.begin:Int),.int .i64 (x.span:Int)] 159)) ?hAx ?assign ?body ?done ?stop ?pan
  case hI =>
    rintro s A B row ⟨⟨cur,h1,h2,h3⟩,h4,h5,h6⟩ hg hr
    exact ⟨⟨cur,own_row h1 hg hr,h2,h3⟩,own_row h4 hg hr,own_row h5 hg hr,ownFrom_below (β:=Unit) (Nat.le_refl _) HB6.out.size () A B row h6 hg hr⟩
  case hIx=>rintro cd s A B row h hg hr; exact h
  case hbox =>
    rintro pre W ⟨h1,h2,h3,h4⟩
    exact ⟨h3,(HW.out.on h4).wid⟩
  case h0 =>
    obtain ⟨cur,h1,h2,h3⟩:=HG6.out
    exact ⟨⟨cur,h1,h2,h3⟩,HK6.out,HX6.out,HB6.out⟩
  case hAx =>
    rintro x a' s A B row ⟨kk,h1,h2⟩ hg hr
    exact ⟨kk,h1,own_row h2 hg hr⟩
  case pan=>intro D W _ h; rcases h with h | ⟨h,_⟩; exact h.elim; cases h
  case stop=>rintro D cd pre W hD hpre h hDr; exact h.elim
  case assign =>
    intro ll pre x W K hpre hI hK
    have HKK:Hid _:=hK
    clear hK hI
    obtain ⟨pl,⟨t,m,q⟩,a,n⟩:=x
    obtain ⟨T,hT⟩:∃ T,strB t=T:=⟨_,rfl⟩
    have HA0:Hid _:=ha0
    rw [ha0]
    simp only [encs,encE,hT,List.zip_toArray,List.zip_cons_cons,List.zip_nil_right,List.foldl_toArray,List.foldl_cons,List.foldl_nil,List.setIfInBounds_toArray,List.set_cons_zero,List.set_cons_succ]
    clear ha0
    gi_wp2
    refine HKK.out _ _ ((Below.refl _ W).alloc (Nat.le_refl _) _) ⟨W.heap.size,?_,?_⟩
    · rw [HA0.out,← hT]; rfl
    · rw [hT]; exact one_alloc W _
  case body =>
    rintro ll pre x a' W hll hpre ⟨⟨cur,hG,hGs,hGt⟩,hK,hX,hb⟩ ⟨kk,ha',hrow⟩
    have hmem:x ∈ LM.entsFrom 0 0 l:=List.mem_reverse.1 (hpre.subset (by simp))
    have hlp:pre.length + 1 ≤ l.length:=by
      have:=hpre.length_le
      rw [HLL.out,List.length_append] at this; simpa using this
    obtain ⟨jj,hjj,hx⟩:=ents_pl l x hmem
    have hwf:LM.Wf x.it:=by rw [hx]; exact hl _ (List.getElem_mem hjj)
    have HVA:Hid (∀ W,Laid W → Calls Tryz.prog 110 #[.agg #[.string (strB x.it.txt),.int .i64 x.it.num,.bool x.it.isN]] W fun e w'=>e=.returned (.string (strB (LM.val x.it)))∧Below W.heap.size W w'):=fun W hW=>value_any x.it hwf W hW
    clear hx hmem hjj hwf
    have HVX:Hid (encV x=.string (strB (LM.val x.it))):=rfl
    obtain ⟨pl,⟨t,m,q⟩,a,n⟩:=x
    simp only at HVA HVX
    generalize strB (LM.val ⟨t,m,q⟩)=VV at *
    obtain ⟨T,hT⟩:∃ T,strB t=T:=⟨_,rfl⟩
    simp only [encE,hT] at ha' hrow HVA
    have HXX:Hid _:=hX
    have HB:Hid (Below w.heap.size w W):=hb
    have hKd:W.drew.heap[kl]?=some (.cells #[.slice (some ⟨g,0,none⟩) pre.length l.length] 22):=hK
    have hGd:W.drew.heap[g]?=some (.cells cur 9):=hG
    obtain ⟨i0,if0⟩:=row1 hK
    obtain ⟨k0,k1,k2,k3,k4,kf⟩:=row5 hrow
    have hlay:Laid W.drew:=(HW.out.on (below_dn hb 1)).laid
    have HC:Hid (cur.size=l.length∧cur.toList.take pre.length=pre.map encV∧pre.length ≤ l.length∧l.length ≤ maxLen∧w.heap.size ≤ g∧g ≠ kl∧pre.length + 1 ≤ l.length):=⟨hGs,hGt,by omega,by unfold maxLen; omega,HD6.out.1,HD6.out.2.2.2.2.1,hlp⟩
    have hmx:Tryz.prog.follows .mixedOrders=true:=by kernel_rfl
    have hi9:=HI9.out.1
    have hz1:=HI9.out.2.2.1
    rw [ha',ha0]
    simp only [List.setIfInBounds_toArray,List.set_cons_zero,List.set_cons_succ]
    clear ha' ha0 hX hb hpre hG hGs hGt hK hlp
    gi_wp2_with fail
    refine wpIn_region_any (by kernel_rfl) ?_
    change wpAnyIn _ _ _ _ _ _ _ _ _ W.drew
    refine wpAnyIn_ready (rs:=[0,1]) (by kernel_rfl) (by simp) ?_
    refine AllReadyIn.cons rfl (fun K hK=>?_) (AllReadyIn.cons rfl (fun K hK=>?_) AllReadyIn.nil)
    · go_simp
      refine hK _ _ ?_; clear hK K
      refine wpAnyIn_ready (rs:=[1]) (by kernel_rfl) (by simp) ?_
      refine AllReadyIn.cons rfl (fun K hK=>?_) AllReadyIn.nil
      go_simp
      refine hK _ _ ?_; clear hK K
      refine wpAnyIn_ready (rs:=[2]) (by kernel_rfl) (by simp) ?_
      refine AllReadyIn.cons rfl (fun K hK=>?_) AllReadyIn.nil
      go_simp
      refine hK _ _ ?_; clear hK K
      refine wpAnyIn_ready (rs:=[3]) (by kernel_rfl) (by simp) ?_
      refine AllReadyIn.cons rfl (fun K hK=>?_) AllReadyIn.nil
      go_simp
      gi_wp2_with ((refine ⟨trivial,?_⟩; gi_at_call 110; refine (CallsIn.inRound ll (callsIn_wide.2 (HVA.out _ hlay))).mono ?_; rintro e w5 ⟨rfl,hb5⟩; have hK5:=keep_row hKd hb5; have hG5:=keep_row hGd hb5; have HB5':Hid (Below W.drew.heap.size W.drew w5):=hb5; have HK5a:Hid ((w5.alloc (.cells #[.string VV] 9)).heap[kl]?=some (.cells #[.slice (some ⟨g,0,none⟩) pre.length l.length] 22)):=keep_row hK5 ((Below.refl _ w5).alloc (Nat.le_refl _) _); obtain ⟨i0,if0⟩:=row1 hK5; obtain ⟨i5,if5⟩:=row1 HK5a.out; clear hb5 hlay))
      refine wpAnyIn_ready (rs:=[4]) (by kernel_rfl) (by simp) ?_
      refine AllReadyIn.cons rfl (fun K hK=>?_) AllReadyIn.nil
      go_simp
      refine hK _ _ ?_; clear hK K
      refine wpAnyIn_ready (rs:=[5]) (by kernel_rfl) (by simp) ?_
      refine AllReadyIn.cons rfl (fun K hK=>?_) AllReadyIn.nil
      rw [if_pos (by rfl)]
      refine opIn_append_fits _ _ _ 22 rfl w.heap.size 9 i9 1 Tryz.underlying22 hi9 hz1 g pre.length l.length (pre.map encV) rfl (rown_mk HC.out.2.2.2.2.1 HC.out.2.2.1 HC.out.2.2.2.1 (keep_row hG5 ((Below.refl _ w5).alloc (Nat.le_refl _) _)) HC.out.1 HC.out.2.1) ⟨w5.heap.size,0,none⟩ 1 1 [.string VV] rfl rfl (cell_one_new _ _ _) (by simp [Value.oneCell']) HC.out.2.2.2.2.2.2 ?_
      intro w7 hown7 hgrow7
      refine hK _ _ ?_; clear hK K
      have hK7:w7.heap[kl]?=some (.cells #[.slice (some ⟨g,0,none⟩) pre.length l.length] 22):=(hgrow7.block kl (row_lt HK5a.out) (fun x=>by injection x with x; exact HC.out.2.2.2.2.2.1 x.symm)).trans HK5a.out
      obtain ⟨i7,if7⟩:=row1 hK7
      have HGR:Hid _:=hgrow7
      have HOW7:Hid _:=hown7
      clear hgrow7 hown7 i0 if0 i5 if5
      refine wpAnyIn_ready (rs:=[6]) (by kernel_rfl) (by simp) ?_
      refine AllReadyIn.cons rfl (fun K hK=>?_) AllReadyIn.nil
      go_simp
      refine hK _ _ ?_; clear hK K
      refine wpAnyIn_done (by kernel_rfl) ?_ _
      gi_wp2
      have hd:=HD6.out
      have hbwx:Below W.heap.size W w5:=(below_dn (Below.refl _ W) 1).trans HB5'.out
      have hbwa:Below W.heap.size W (w5.alloc (.cells #[.string VV] 9)):=hbwx.alloc hbwx.size _
      refine ⟨((KA.of_below hbwa).trans (KA.grown HGR.out hd.2.1)).trans (KA.setCell _ _ _ hd.2.2.2.1),?_,?_,?_,?_⟩
      · obtain ⟨cur',q1,q2,q3⟩:=rown_form HOW7.out
        refine ⟨cur',(heap_setCell_other _ _ _ _ hd.2.2.2.2.1).trans q1,q2,?_⟩
        rw [List.length_append,List.map_append]
        simpa [HVX.out] using q3
      · rw [heap_setCell_same _ _ _ _ _ _ hK7,List.length_append]; rfl
      · refine (heap_setCell_other _ _ _ _ hd.2.2.2.2.2.2).trans ?_
        exact (HGR.out.block bx (row_lt (keep_row HXX.out hbwa)) (fun x=>by injection x with x; exact hd.2.2.2.2.2.1 x)).trans (keep_row HXX.out hbwa)
      · exact ((bel_to HB.out hbwa (Nat.le_refl _)).grown HGR.out (Nat.le_trans HB.out.size hbwa.size) (fun k hk=>by injection hk with hk; rw [← hk]; exact hd.1)).setCell (p:=⟨kl,0,none⟩) hd.2.2.1 _
    · go_simp
      refine hK _ _ ?_; clear hK K
      refine wpAnyIn_ready (rs:=[0,2]) (by kernel_rfl) (by simp) ?_
      refine AllReadyIn.cons rfl (fun K hK=>?_) (AllReadyIn.cons rfl (fun K hK=>?_) AllReadyIn.nil)
      · go_simp
        refine hK _ _ ?_; clear hK K
        refine wpAnyIn_ready (rs:=[2]) (by kernel_rfl) (by simp) ?_
        refine AllReadyIn.cons rfl (fun K hK=>?_) AllReadyIn.nil
        go_simp
        refine hK _ _ ?_; clear hK K
        refine wpAnyIn_ready (rs:=[3]) (by kernel_rfl) (by simp) ?_
        refine AllReadyIn.cons rfl (fun K hK=>?_) AllReadyIn.nil
        go_simp
        gi_wp2_with ((refine ⟨trivial,?_⟩; gi_at_call 110; refine (CallsIn.inRound ll (callsIn_wide.2 (HVA.out _ hlay))).mono ?_; rintro e w5 ⟨rfl,hb5⟩; have hK5:=keep_row hKd hb5; have hG5:=keep_row hGd hb5; have HB5':Hid (Below W.drew.heap.size W.drew w5):=hb5; have HK5a:Hid ((w5.alloc (.cells #[.string VV] 9)).heap[kl]?=some (.cells #[.slice (some ⟨g,0,none⟩) pre.length l.length] 22)):=keep_row hK5 ((Below.refl _ w5).alloc (Nat.le_refl _) _); obtain ⟨i0,if0⟩:=row1 hK5; obtain ⟨i5,if5⟩:=row1 HK5a.out; clear hb5 hlay))
        refine wpAnyIn_ready (rs:=[4]) (by kernel_rfl) (by simp) ?_
        refine AllReadyIn.cons rfl (fun K hK=>?_) AllReadyIn.nil
        go_simp
        refine hK _ _ ?_; clear hK K
        refine wpAnyIn_ready (rs:=[5]) (by kernel_rfl) (by simp) ?_
        refine AllReadyIn.cons rfl (fun K hK=>?_) AllReadyIn.nil
        rw [if_pos (by rfl)]
        refine opIn_append_fits _ _ _ 22 rfl w.heap.size 9 i9 1 Tryz.underlying22 hi9 hz1 g pre.length l.length (pre.map encV) rfl (rown_mk HC.out.2.2.2.2.1 HC.out.2.2.1 HC.out.2.2.2.1 (keep_row hG5 ((Below.refl _ w5).alloc (Nat.le_refl _) _)) HC.out.1 HC.out.2.1) ⟨w5.heap.size,0,none⟩ 1 1 [.string VV] rfl rfl (cell_one_new _ _ _) (by simp [Value.oneCell']) HC.out.2.2.2.2.2.2 ?_
        intro w7 hown7 hgrow7
        refine hK _ _ ?_; clear hK K
        have hK7:w7.heap[kl]?=some (.cells #[.slice (some ⟨g,0,none⟩) pre.length l.length] 22):=(hgrow7.block kl (row_lt HK5a.out) (fun x=>by injection x with x; exact HC.out.2.2.2.2.2.1 x.symm)).trans HK5a.out
        obtain ⟨i7,if7⟩:=row1 hK7
        have HGR:Hid _:=hgrow7
        have HOW7:Hid _:=hown7
        clear hgrow7 hown7 i0 if0 i5 if5
        refine wpAnyIn_ready (rs:=[6]) (by kernel_rfl) (by simp) ?_
        refine AllReadyIn.cons rfl (fun K hK=>?_) AllReadyIn.nil
        go_simp
        refine hK _ _ ?_; clear hK K
        refine wpAnyIn_done (by kernel_rfl) ?_ _
        gi_wp2
        have hd:=HD6.out
        have hbwx:Below W.heap.size W w5:=(below_dn (Below.refl _ W) 1).trans HB5'.out
        have hbwa:Below W.heap.size W (w5.alloc (.cells #[.string VV] 9)):=hbwx.alloc hbwx.size _
        refine ⟨((KA.of_below hbwa).trans (KA.grown HGR.out hd.2.1)).trans (KA.setCell _ _ _ hd.2.2.2.1),?_,?_,?_,?_⟩
        · obtain ⟨cur',q1,q2,q3⟩:=rown_form HOW7.out
          refine ⟨cur',(heap_setCell_other _ _ _ _ hd.2.2.2.2.1).trans q1,q2,?_⟩
          rw [List.length_append,List.map_append]
          simpa [HVX.out] using q3
        · rw [heap_setCell_same _ _ _ _ _ _ hK7,List.length_append]; rfl
        · refine (heap_setCell_other _ _ _ _ hd.2.2.2.2.2.2).trans ?_
          exact (HGR.out.block bx (row_lt (keep_row HXX.out hbwa)) (fun x=>by injection x with x; exact hd.2.2.2.2.2.1 x)).trans (keep_row HXX.out hbwa)
        · exact ((bel_to HB.out hbwa (Nat.le_refl _)).grown HGR.out (Nat.le_trans HB.out.size hbwa.size) (fun k hk=>by injection hk with hk; rw [← hk]; exact hd.1)).setCell (p:=⟨kl,0,none⟩) hd.2.2.1 _
      · go_simp
        refine hK _ _ ?_; clear hK K
        refine wpAnyIn_ready (rs:=[0,3]) (by kernel_rfl) (by simp) ?_
        refine AllReadyIn.cons rfl (fun K hK=>?_) (AllReadyIn.cons rfl (fun K hK=>?_) AllReadyIn.nil)
        · go_simp
          refine hK _ _ ?_; clear hK K
          refine wpAnyIn_ready (rs:=[3]) (by kernel_rfl) (by simp) ?_
          refine AllReadyIn.cons rfl (fun K hK=>?_) AllReadyIn.nil
          go_simp
          gi_wp2_with ((refine ⟨trivial,?_⟩; gi_at_call 110; refine (CallsIn.inRound ll (callsIn_wide.2 (HVA.out _ hlay))).mono ?_; rintro e w5 ⟨rfl,hb5⟩; have hK5:=keep_row hKd hb5; have hG5:=keep_row hGd hb5; have HB5':Hid (Below W.drew.heap.size W.drew w5):=hb5; have HK5a:Hid ((w5.alloc (.cells #[.string VV] 9)).heap[kl]?=some (.cells #[.slice (some ⟨g,0,none⟩) pre.length l.length] 22)):=keep_row hK5 ((Below.refl _ w5).alloc (Nat.le_refl _) _); obtain ⟨i0,if0⟩:=row1 hK5; obtain ⟨i5,if5⟩:=row1 HK5a.out; clear hb5 hlay))
          refine wpAnyIn_ready (rs:=[4]) (by kernel_rfl) (by simp) ?_
          refine AllReadyIn.cons rfl (fun K hK=>?_) AllReadyIn.nil
          go_simp
          refine hK _ _ ?_; clear hK K
          refine wpAnyIn_ready (rs:=[5]) (by kernel_rfl) (by simp) ?_
          refine AllReadyIn.cons rfl (fun K hK=>?_) AllReadyIn.nil
          rw [if_pos (by rfl)]
          refine opIn_append_fits _ _ _ 22 rfl w.heap.size 9 i9 1 Tryz.underlying22 hi9 hz1 g pre.length l.length (pre.map encV) rfl (rown_mk HC.out.2.2.2.2.1 HC.out.2.2.1 HC.out.2.2.2.1 (keep_row hG5 ((Below.refl _ w5).alloc (Nat.le_refl _) _)) HC.out.1 HC.out.2.1) ⟨w5.heap.size,0,none⟩ 1 1 [.string VV] rfl rfl (cell_one_new _ _ _) (by simp [Value.oneCell']) HC.out.2.2.2.2.2.2 ?_
          intro w7 hown7 hgrow7
          refine hK _ _ ?_; clear hK K
          have hK7:w7.heap[kl]?=some (.cells #[.slice (some ⟨g,0,none⟩) pre.length l.length] 22):=(hgrow7.block kl (row_lt HK5a.out) (fun x=>by injection x with x; exact HC.out.2.2.2.2.2.1 x.symm)).trans HK5a.out
          obtain ⟨i7,if7⟩:=row1 hK7
          have HGR:Hid _:=hgrow7
          have HOW7:Hid _:=hown7
          clear hgrow7 hown7 i0 if0 i5 if5
          refine wpAnyIn_ready (rs:=[6]) (by kernel_rfl) (by simp) ?_
          refine AllReadyIn.cons rfl (fun K hK=>?_) AllReadyIn.nil
          go_simp
          refine hK _ _ ?_; clear hK K
          refine wpAnyIn_done (by kernel_rfl) ?_ _
          gi_wp2
          have hd:=HD6.out
          have hbwx:Below W.heap.size W w5:=(below_dn (Below.refl _ W) 1).trans HB5'.out
          have hbwa:Below W.heap.size W (w5.alloc (.cells #[.string VV] 9)):=hbwx.alloc hbwx.size _
          refine ⟨((KA.of_below hbwa).trans (KA.grown HGR.out hd.2.1)).trans (KA.setCell _ _ _ hd.2.2.2.1),?_,?_,?_,?_⟩
          · obtain ⟨cur',q1,q2,q3⟩:=rown_form HOW7.out
            refine ⟨cur',(heap_setCell_other _ _ _ _ hd.2.2.2.2.1).trans q1,q2,?_⟩
            rw [List.length_append,List.map_append]
            simpa [HVX.out] using q3
          · rw [heap_setCell_same _ _ _ _ _ _ hK7,List.length_append]; rfl
          · refine (heap_setCell_other _ _ _ _ hd.2.2.2.2.2.2).trans ?_
            exact (HGR.out.block bx (row_lt (keep_row HXX.out hbwa)) (fun x=>by injection x with x; exact hd.2.2.2.2.2.1 x)).trans (keep_row HXX.out hbwa)
          · exact ((bel_to HB.out hbwa (Nat.le_refl _)).grown HGR.out (Nat.le_trans HB.out.size hbwa.size) (fun k hk=>by injection hk with hk; rw [← hk]; exact hd.1)).setCell (p:=⟨kl,0,none⟩) hd.2.2.1 _
        · go_simp
          gi_wp2_with ((refine ⟨trivial,?_⟩; gi_at_call 110; refine (CallsIn.inRound ll (callsIn_wide.2 (HVA.out _ hlay))).mono ?_; rintro e w5 ⟨rfl,hb5⟩; have hK5:=keep_row hKd hb5; have hG5:=keep_row hGd hb5; have HB5':Hid (Below W.drew.heap.size W.drew w5):=hb5; have HK5a:Hid ((w5.alloc (.cells #[.string VV] 9)).heap[kl]?=some (.cells #[.slice (some ⟨g,0,none⟩) pre.length l.length] 22)):=keep_row hK5 ((Below.refl _ w5).alloc (Nat.le_refl _) _); obtain ⟨i0,if0⟩:=row1 hK5; obtain ⟨i5,if5⟩:=row1 HK5a.out; clear hb5 hlay))
          refine wpAnyIn_ready (rs:=[0,4]) (by kernel_rfl) (by simp) ?_
          refine AllReadyIn.cons rfl (fun K hK=>?_) (AllReadyIn.cons rfl (fun K hK=>?_) AllReadyIn.nil)
          · go_simp
            refine hK _ _ ?_; clear hK K
            refine wpAnyIn_ready (rs:=[4]) (by kernel_rfl) (by simp) ?_
            refine AllReadyIn.cons rfl (fun K hK=>?_) AllReadyIn.nil
            go_simp
            refine hK _ _ ?_; clear hK K
            refine wpAnyIn_ready (rs:=[5]) (by kernel_rfl) (by simp) ?_
            refine AllReadyIn.cons rfl (fun K hK=>?_) AllReadyIn.nil
            rw [if_pos (by rfl)]
            refine opIn_append_fits _ _ _ 22 rfl w.heap.size 9 i9 1 Tryz.underlying22 hi9 hz1 g pre.length l.length (pre.map encV) rfl (rown_mk HC.out.2.2.2.2.1 HC.out.2.2.1 HC.out.2.2.2.1 (keep_row hG5 ((Below.refl _ w5).alloc (Nat.le_refl _) _)) HC.out.1 HC.out.2.1) ⟨w5.heap.size,0,none⟩ 1 1 [.string VV] rfl rfl (cell_one_new _ _ _) (by simp [Value.oneCell']) HC.out.2.2.2.2.2.2 ?_
            intro w7 hown7 hgrow7
            refine hK _ _ ?_; clear hK K
            have hK7:w7.heap[kl]?=some (.cells #[.slice (some ⟨g,0,none⟩) pre.length l.length] 22):=(hgrow7.block kl (row_lt HK5a.out) (fun x=>by injection x with x; exact HC.out.2.2.2.2.2.1 x.symm)).trans HK5a.out
            obtain ⟨i7,if7⟩:=row1 hK7
            have HGR:Hid _:=hgrow7
            have HOW7:Hid _:=hown7
            clear hgrow7 hown7 i0 if0 i5 if5
            refine wpAnyIn_ready (rs:=[6]) (by kernel_rfl) (by simp) ?_
            refine AllReadyIn.cons rfl (fun K hK=>?_) AllReadyIn.nil
            go_simp
            refine hK _ _ ?_; clear hK K
            refine wpAnyIn_done (by kernel_rfl) ?_ _
            gi_wp2
            have hd:=HD6.out
            have hbwx:Below W.heap.size W w5:=(below_dn (Below.refl _ W) 1).trans HB5'.out
            have hbwa:Below W.heap.size W (w5.alloc (.cells #[.string VV] 9)):=hbwx.alloc hbwx.size _
            refine ⟨((KA.of_below hbwa).trans (KA.grown HGR.out hd.2.1)).trans (KA.setCell _ _ _ hd.2.2.2.1),?_,?_,?_,?_⟩
            · obtain ⟨cur',q1,q2,q3⟩:=rown_form HOW7.out
              refine ⟨cur',(heap_setCell_other _ _ _ _ hd.2.2.2.2.1).trans q1,q2,?_⟩
              rw [List.length_append,List.map_append]
              simpa [HVX.out] using q3
            · rw [heap_setCell_same _ _ _ _ _ _ hK7,List.length_append]; rfl
            · refine (heap_setCell_other _ _ _ _ hd.2.2.2.2.2.2).trans ?_
              exact (HGR.out.block bx (row_lt (keep_row HXX.out hbwa)) (fun x=>by injection x with x; exact hd.2.2.2.2.2.1 x)).trans (keep_row HXX.out hbwa)
            · exact ((bel_to HB.out hbwa (Nat.le_refl _)).grown HGR.out (Nat.le_trans HB.out.size hbwa.size) (fun k hk=>by injection hk with hk; rw [← hk]; exact hd.1)).setCell (p:=⟨kl,0,none⟩) hd.2.2.1 _
          · go_simp
            refine hK _ _ ?_; clear hK K
            refine wpAnyIn_ready (rs:=[0]) (by kernel_rfl) (by simp) ?_
            refine AllReadyIn.cons rfl (fun K hK=>?_) AllReadyIn.nil
            go_simp
            refine hK _ _ ?_; clear hK K
            refine wpAnyIn_ready (rs:=[5]) (by kernel_rfl) (by simp) ?_
            refine AllReadyIn.cons rfl (fun K hK=>?_) AllReadyIn.nil
            rw [if_pos (by rfl)]
            refine opIn_append_fits _ _ _ 22 rfl w.heap.size 9 i9 1 Tryz.underlying22 hi9 hz1 g pre.length l.length (pre.map encV) rfl (rown_mk HC.out.2.2.2.2.1 HC.out.2.2.1 HC.out.2.2.2.1 (keep_row hG5 ((Below.refl _ w5).alloc (Nat.le_refl _) _)) HC.out.1 HC.out.2.1) ⟨w5.heap.size,0,none⟩ 1 1 [.string VV] rfl rfl (cell_one_new _ _ _) (by simp [Value.oneCell']) HC.out.2.2.2.2.2.2 ?_
            intro w7 hown7 hgrow7
            refine hK _ _ ?_; clear hK K
            have hK7:w7.heap[kl]?=some (.cells #[.slice (some ⟨g,0,none⟩) pre.length l.length] 22):=(hgrow7.block kl (row_lt HK5a.out) (fun x=>by injection x with x; exact HC.out.2.2.2.2.2.1 x.symm)).trans HK5a.out
            obtain ⟨i7,if7⟩:=row1 hK7
            have HGR:Hid _:=hgrow7
            have HOW7:Hid _:=hown7
            clear hgrow7 hown7 i0 if0 i5 if5
            refine wpAnyIn_ready (rs:=[6]) (by kernel_rfl) (by simp) ?_
            refine AllReadyIn.cons rfl (fun K hK=>?_) AllReadyIn.nil
            go_simp
            refine hK _ _ ?_; clear hK K
            refine wpAnyIn_done (by kernel_rfl) ?_ _
            gi_wp2
            have hd:=HD6.out
            have hbwx:Below W.heap.size W w5:=(below_dn (Below.refl _ W) 1).trans HB5'.out
            have hbwa:Below W.heap.size W (w5.alloc (.cells #[.string VV] 9)):=hbwx.alloc hbwx.size _
            refine ⟨((KA.of_below hbwa).trans (KA.grown HGR.out hd.2.1)).trans (KA.setCell _ _ _ hd.2.2.2.1),?_,?_,?_,?_⟩
            · obtain ⟨cur',q1,q2,q3⟩:=rown_form HOW7.out
              refine ⟨cur',(heap_setCell_other _ _ _ _ hd.2.2.2.2.1).trans q1,q2,?_⟩
              rw [List.length_append,List.map_append]
              simpa [HVX.out] using q3
            · rw [heap_setCell_same _ _ _ _ _ _ hK7,List.length_append]; rfl
            · refine (heap_setCell_other _ _ _ _ hd.2.2.2.2.2.2).trans ?_
              exact (HGR.out.block bx (row_lt (keep_row HXX.out hbwa)) (fun x=>by injection x with x; exact hd.2.2.2.2.2.1 x)).trans (keep_row HXX.out hbwa)
            · exact ((bel_to HB.out hbwa (Nat.le_refl _)).grown HGR.out (Nat.le_trans HB.out.size hbwa.size) (fun k hk=>by injection hk with hk; rw [← hk]; exact hd.1)).setCell (p:=⟨kl,0,none⟩) hd.2.2.1 _
  case done =>
    rintro D W hD _ ⟨⟨cur,hG,hGs,hGt⟩,hK,hX,hb⟩ hDr
    rw [ha0]
    rw [HLL.out] at hGt hK
    rw [HVL.out] at hGt
    obtain ⟨i0,if0⟩:=row1 hK
    have HG:Hid _:=hG
    have HGT:Hid _:=hGt
    have HGS:Hid _:=hGs
    have HDR:Hid _:=hDr
    have HB:Hid (Below w.heap.size w W):=hb
    have HLM:Hid (l.length ≤ maxLen):=by show _ ≤ _; unfold maxLen; omega
    clear ha0 hX hb hDr hK hG hGt hGs
    refine wpB_then (n:=10) ?_
    gi_wp2
    refine wpB_of (n:=10) ?_
    gi_wp2
    refine ⟨by simp,.inl ⟨_,_,rfl,run_takeDeferred HDR.out,?_⟩⟩
    have h1:g ≠ D:=by rintro rfl; have:=HDR.out; rw [HG.out] at this; cases this
    refine ⟨.tuple #[.slice (some ⟨g,0,none⟩) l.length l.length,.int .i64 0],?_,⟨g,rfl,rown_mk HD6.out.1 (Nat.le_refl _) HLM.out (put_keep HG.out h1) HGS.out (by simpa using HGT.out)⟩,put_below HB.out (by have:=HB6.out.size; omega)⟩
    simp [results,Tryz.results90,go_sem]
end Go.Proofs.YtijambehfobopaaGreatDoor
namespace Go.Proofs.YtijambehfobopaaGreatDoor
open Go.RowKit
set_option linter.unusedVariables false
theorem pk_sum {p:ByteArray} {l:List LM.Item} (h:LM.Pk p.data.toList l):LM.bsum l ≤ 1073741824:=by have:=h.size; rw [h.eq,LM.build_len] at this; omega
theorem pk_size {p:ByteArray} {l:List LM.Item} (h:LM.Pk p.data.toList l):p.size ≤ 281474976710656:=by have:=h.size; rw [list_len] at this; omega
open Classical in
theorem outS_two (P:Prop) (L:List UInt8):∃ Z x,outS P L=.tuple #[.string Z,.int .i64 x]:=by
  unfold outS; split
  · exact ⟨_,_,rfl⟩
  · exact ⟨_,_,rfl⟩
open Classical in
set_option maxHeartbeats 1000000 in
set_option maxRecDepth 100000 in
theorem Insert_in (p:ByteArray) (l:List LM.Item) (h:LM.Pk p.data.toList l) (i:Nat) (hi:i ≤ l.length) (v:Value) (vs:List ByteArray) (hvl:vs.length ≤ 70368744177664) (hvm:∀ x ∈ vs,x.size ≤ 281474976710656) (w:World) (hv:SRow w v vs) (hw:Lay w) :
    Calls Tryz.prog 99 #[.string p,.int .i64 (i:Int),v] w fun e w'=>e=.returned (outS (fitI l i 0 vs) (LM.build (newI l i 0 vs)))∧Below w.heap.size w w':=by
  have HRH:Hid (Calls Tryz.prog 88 #[.string p] w (rdP p w)):=read_any p (pk_size h) w hw
  have HSP:Hid (∀ W,SRow W v vs → Lay W → Calls Tryz.prog 117 #[.agg #[.string (strB (LM.bodyOf l)),.int .i64 (l.length:Int)],.int .i64 (i:Int),.int .i64 0,v] W fun e w'=>e=.returned (outS (fitI l i 0 vs) (LM.build (newI l i 0 vs)))∧Below W.heap.size W w'):=fun W hV hW =>
    spl_any l (begC_any l h.wf (pk_sum h)) h.wf (pk_sum h) h.len i 0 (by omega) v vs hvl hvm W hV hW
  have HP:Hid _:=h
  have HV:Hid (SRow w v vs):=hv
  have HW:Hid (Lay w):=hw
  obtain ⟨P,c,rfl⟩:=hv.form
  obtain ⟨Z,x,hZ⟩:=outS_two (fitI l i 0 vs) (LM.build (newI l i 0 vs))
  rw [hZ] at HSP ⊢
  have hl20:=h.len
  clear hv hw h hvm hZ
  go_enter Tryz.func99,Tryz.ntmps99
  go_wp2_with fail
  refine (show Calls _ _ _ _ _ from HRH.out).mono ?_
  rintro e w1 ⟨⟨l',hl',rfl⟩ | ⟨hno,rfl⟩,hb1⟩
  case inr=>exact absurd HP.out (hno l)
  have he:l'=l:=hl'.uniq HP.out
  subst he
  have HB1:Hid (Below w.heap.size w (w1.alloc (.cells #[.string (strB (LM.bodyOf l')),.int .i64 (l'.length:Int)] 131))):=hb1.alloc hb1.size _
  clear hb1 hl'
  generalize strB (LM.bodyOf l')=Bo at *
  go_wp2_with fail
  refine (show Calls _ _ _ _ _ from HSP.out _ (HV.out.on HB1.out) (HW.out.on HB1.out)).mono ?_
  rintro e w2 ⟨rfl,hb2⟩
  have HB2:Hid (Below w.heap.size w w2):=bel_to HB1.out hb2 (Nat.le_refl _)
  clear hb2
  go_wp2
  go_ret2
  exact ⟨rfl,HB2.out⟩
end Go.Proofs.YtijambehfobopaaGreatDoor
namespace Go.Proofs.YtijambehfobopaaGreatDoor
open Go.RowKit
set_option linter.unusedVariables false
end Go.Proofs.YtijambehfobopaaGreatDoor
namespace Go.Proofs.YtijambehfobopaaGreatDoor
open Go.RowKit
set_option linter.unusedVariables false
theorem nI_nil (vs:List ByteArray):newI [] 0 0 vs=vs.map (fun v=>LM.itemOf v.data.toList):=by unfold newI; simp
theorem fI_nil (vs:List ByteArray):fitI [] 0 0 vs ↔ ((∀ v ∈ vs,v.size ≤ 524288)∧vs.length ≤ 1048576∧7 + LM.bsum (vs.map (fun v=>LM.itemOf v.data.toList)) ≤ 1073741824):=by
  unfold fitI; rw [nI_nil]; simp
def valsOf (l:List LM.Item):List ByteArray:=l.map (fun it=>strB (LM.val it))
theorem vals_len (l:List LM.Item):(valsOf l).length=l.length:=by simp [valsOf]
theorem vals_its (l:List LM.Item) (h:∀ it ∈ l,LM.Wf it):(valsOf l).map (fun v=>LM.itemOf v.data.toList)=l:=by
  unfold valsOf
  rw [List.map_map]
  conv=>rhs; rw [← List.map_id l]
  refine List.map_congr_left (fun it hit=>?_)
  simp only [Function.comp,id]
  rw [strB_list,LM.itemOf_val it (h it hit)]
theorem its_vals (vs:List ByteArray):valsOf (vs.map (fun v=>LM.itemOf v.data.toList))=vs:=by
  unfold valsOf
  rw [List.map_map]
  conv=>rhs; rw [← List.map_id vs]
  refine List.map_congr_left (fun v hv=>?_)
  simp only [Function.comp,id]
  rw [LM.val_itemOf]
  exact bytes_ext (strB_list _)
theorem pk_fit {p:List UInt8} {l:List LM.Item} (h:LM.Pk p l):fitI [] 0 0 (valsOf l):=by
  rw [fI_nil,vals_its l h.wf,vals_len]
  refine ⟨fun v hv=>?_,h.len,by have:=h.size; rw [h.eq,LM.build_len] at this; exact this⟩
  obtain ⟨it,hit,rfl⟩:=List.mem_map.1 hv
  rw [strB_size]; exact LM.val_len it (h.wf it hit)
end Go.Proofs.YtijambehfobopaaGreatDoor
namespace Go.Proofs.YtijambehfobopaaGreatDoor
open Go.RowKit
set_option linter.unusedVariables false
end Go.Proofs.YtijambehfobopaaGreatDoor
namespace Go.Proofs.YtijambehfobopaaGreatDoor
open Go.RowKit
set_option linter.unusedVariables false
end Go.Proofs.YtijambehfobopaaGreatDoor
namespace Go.Proofs.YtijambehfobopaaGreatDoor
open Go.RowKit
set_option linter.unusedVariables false
def RowAt (w:World) (g c:Nat) (xs:List Value):Prop:=∃ cur,w.heap[g]?=some (.cells cur 9)∧cur.size=c∧cur.toList.take xs.length=xs∧xs.length ≤ c
end Go.Proofs.YtijambehfobopaaGreatDoor
