import Derived.Test.YtbgbmfmgdgalbaaGreatDoorM02
import Derived.Test.YtbgbmfmgdgalbaaGreatDoorSortS
import Derived.Sort.KeysCollected
import Derived.Sort.OwnSorted
import Derived.OwnWalk
namespace Go.Proofs.YtbgbmfmgdgalbaaGreatDoor
open Go.RowKit Go.Maps Go.Sort
set_option linter.unusedVariables false
set_option linter.unusedSimpArgs false
theorem byl_lt:∀ x y:List UInt8,Op.bytesLess x y=true → x < y
  | _,[],h=>by simp [Op.bytesLess] at h
  | [],_ :: _,_=>List.nil_lt_cons _ _
  | a :: x,b :: y,h=>by
    simp only [Op.bytesLess,Bool.or_eq_true,decide_eq_true_eq,Bool.and_eq_true,beq_iff_eq] at h
    rw [List.cons_lt_cons_iff]
    rcases h with h | ⟨rfl,h⟩
    · exact Or.inl h
    · exact Or.inr ⟨rfl,byl_lt x y h⟩
structure NamesOf (f:ByteArray → Option Nat) (L:List ByteArray):Prop where
  rise:L.Pairwise fun a b=>ltB a b=true
  mem:∀ m,m ∈ L ↔ (f m).isSome=true
theorem sorted_names {f:ByteArray → Option Nat} {L:List ByteArray} (h:NamesOf f L) {ss:List (List UInt8)} (hn:ss.Nodup) (hm:∀ x,x ∈ ss ↔ (f ⟨x.toArray⟩).isSome=true):(ss.mergeSort fun x y=>decide (x ≤ y))=L.map fun s=>s.data.toList:=by
  have hp:(L.map fun s=>s.data.toList).Pairwise fun x y=>x < y:=by
    rw [List.pairwise_map]
    refine h.rise.imp (fun {a b} hab=>?_)
    unfold ltB at hab
    rw [ByteArray.toList_eq,ByteArray.toList_eq] at hab
    exact byl_lt _ _ hab
  have hnd:(L.map fun s=>s.data.toList).Nodup:=hp.imp (fun {a b} hab e=>by subst e; exact List.lt_irrefl _ hab)
  have hperm:ss.Perm (L.map fun s=>s.data.toList):=by
    refine (List.perm_ext_iff_of_nodup hn hnd).2 (fun x=>?_)
    rw [hm x,← h.mem,List.mem_map]
    constructor
    · intro hx; exact ⟨_,hx,rfl⟩
    · rintro ⟨s,hs,rfl⟩; exact hs
  have e:=mergeSort_of_perm hperm
  show ss.mergeSort leB=_
  rw [e]
  refine List.mergeSort_of_pairwise (hp.imp (fun {a b} hab=>?_))
  simp only [leB,decide_eq_true_eq]
  exact List.le_of_lt hab
theorem sort_own (base:Nat) (v:Value) (ss:List (List UInt8)) (hl:ss.length ≤ 8796093022208) (w:World) (hv:v ≠ .slice none 0 0) (h:w.ownsRow base 9 1 v ss.length (ss.map encStr)) :
    Calls Tryz.prog 118 #[v] w fun e w'=>e=.returned (.tuple #[])∧w'.ownsRow base 9 1 v ss.length ((ss.mergeSort fun x y=>decide (x ≤ y)).map encStr)∧w.grownBy w' v.ownBlock:=by
  rcases h.2 with ⟨hnil,_⟩ | ⟨g,cap,cur,rfl,hbase,hb,h1,h2,h3,h4⟩
  · exact absurd hnil hv
  · refine (Tryz.slices_Sort_string g 0 cap ss w (holds_of_block hb (by simpa using h4)) (row_lt hb) (by omega)).mono ?_
    rintro e w' ⟨rfl,n,os,rfl⟩
    exact ⟨rfl,ownsRow_sorted (by simp) hbase hb h1 h2 h3,grownBy_sorted _⟩
theorem psE_enc (L:List ByteArray):psE.fl L=(L.map fun s=>s.data.toList).map encStr:=by
  induction L with
  | nil=>rfl
  | cons s L ih =>
    show Value.string s :: psE.fl L=_
    rw [ih]; rfl
theorem ptrElem_shape (v:Value) (y:DataW Unit × List MemPlace) (h:ptrElem v=some y):∃ c,v=ptr c:=by
  obtain ⟨o,rfl,_⟩:=ptrElem_inv h; exact ⟨o,rfl⟩
set_option maxRecDepth 100000 in
set_option maxHeartbeats 2000000 in
theorem names_any (mb k:Nat) (f:ByteArray → Option Nat) (L:List ByteArray) (hL:NamesOf f L) (hk:k ≤ 1048576) (hsz:∀ m ∈ L,m.size ≤ 281474976710656) (w:World) (h:MapIs w mb k f) :
    Calls Tryz.prog 74 #[.map (some mb)] w fun e w'=>∃ v,e=.returned v∧w'.ownsRow w.heap.size 9 1 v L.length (psE.fl L)∧Below w.heap.size w w':=by
  obtain ⟨D0,hown,hD⟩:=h
  obtain ⟨i0,hi,hz0,hz1,hz2⟩:=info_of psOk.inf
  have hbl:=hown.lt
  have HKS:Hid (Maps.size D0=k):=hD.siz
  have HCL:Hid (∀ (x:List UInt8) W,Maps.has D0 (.string x)=true → Calls Tryz.prog 117 #[encStr x] W fun e w'=>e=.returned (encStr x)∧Below W.heap.size W w'):=fun x W hx=>clone_any ⟨x.toArray⟩ (hsz _ ((hL.mem _).2 (by rw [← hD.has ⟨x.toArray⟩]; exact hx))) W
  have HFIN:Hid (∀ ss:List (List UInt8),ss.Nodup → (∀ x,x ∈ ss ↔ Maps.has D0 (.string x)=true) → (ss.mergeSort fun x y=>decide (x ≤ y)).map encStr=psE.fl L∧ss.length=L.length):=fun ss hn hm=>by
    have e:=sorted_names hL hn (fun x=>by rw [hm x]; have:=hD.has ⟨x.toArray⟩; simpa using congrArg (·=true) this)
    refine ⟨by rw [e,psE_enc],?_⟩
    have:=congrArg List.length e
    simpa using this
  go_enter Tryz.func74,Tryz.ntmps74
  go_wp2_with (first
    | (at_len; refine wpList_len_own _ rfl _ 70 rfl 9 83 Tryz.underlying70 _ mb k _ rfl hown ?_)
    | (at_make; refine wpList_make_own _ rfl _ _ 22 rfl w.heap.size 9 i0 (.string ⟨#[]⟩) 1 Tryz.underlying22 hi hz0 hz1 _ _ _ (Maps.size D0) rfl rfl rfl (by rw [hz2,HKS.out]; show 16 * _ ≤ _; omega) (by rw [HKS.out]; unfold maxLen; omega) (Nat.le_refl _) ?_; intro w1 hrow1 hg1)
    | (at_range; refine wpList_range_own _ rfl _ 70 rfl 9 83 lawK Tryz.underlying70 _ mb k _ rfl (hown.kept hg1 (by simp)) ?_; intro w0 hrg0 hg0 hs0)
    | go_in)
  go_frame
  have HR1:Hid (w.heap.size ≤ w1.heap.size):=hg1.size
  have HBL:Hid (mb < w.heap.size):=hbl
  have HOWN:Hid (w.ownsMap Tryz.prog 9 ptrElem mb k D0):=hown
  go_loopw [3] (fun v wr=>∃ (left:Lit → Bool) (cnt:Nat) (ss:List (List UInt8)),wr.ranges Tryz.prog 9 ptrElem mb w1.heap.size k D0 left cnt∧ss.length + cnt ≤ k ∧
      wr.ownsRow w.heap.size 9 1 v ss.length (ss.map encStr)∧v ≠ .slice none 0 0∧Collected D0 left ss∧Below w.heap.size w wr)
    (fun _ wr=>wr.rangeLeft mb w1.heap.size)
  case atStart =>
    exact ⟨_,_,[],hrg0,by rw [HKS.out]; simp,hrow1.kept hg0 (Or.inr (by simp [Value.ownBlock])),by simp,Collected.start D0,
      ((Below.refl _ _).grown hg1 (Nat.le_refl _) (fun j hj=>by cases hj)).grown hg0 hg1.size (fun j hj=>by cases hj)⟩
  case round =>
    obtain ⟨left,cnt,ss,hrg,hcs,hrow,hnn,hC,hnx⟩:=hrel
    clear hrow1 hg1 hrg0 hg0 hs0 hbl hown
    go_wp2_with (first
      | (at_next; refine wpList_next_ranges _ rfl _ rfl 9 lawK ptrElem encStr ptr (fun key kl hk=>by obtain ⟨x,hx,_⟩:=Maps.keyOf_str Tryz.underlying9 hk; exact ⟨x,hx⟩) ptrElem_shape mb w1.heap.size k _ _ _ rfl hrg ?_ ?_)
      | go_in)
    · intro hc0 hl0
      have HNX:Hid (Below w.heap.size w wr):=hnx
      obtain ⟨hfl,hfn⟩:=HFIN.out ss hC.1 (fun x=>by rw [hC.2 x,hl0]; simp)
      have HSO:Hid _:=sort_own w.heap.size _ ss (by omega) wr hnn hrow
      have HFL:Hid _:=hfl
      have HFN:Hid (ss.length=L.length):=hfn
      obtain ⟨P,c,hv⟩:=own_form hrow
      subst hv
      have HRW:Hid (wr.ownsRow w.heap.size 9 1 (.slice P ss.length c) ss.length (ss.map encStr)):=hrow
      clear hrow hnn hC hrg hnx hfl hfn hcs
      go_wp2_with fail
      refine (show Calls _ _ _ _ _ from HSO.out).mono ?_
      rintro e w3 ⟨rfl,ho3,hg3⟩
      have HO3:Hid (w3.ownsRow w.heap.size 9 1 (.slice P ss.length c) ss.length ((ss.mergeSort fun x y=>decide (x ≤ y)).map encStr)):=ho3
      have HG3:Hid (wr.grownBy w3 (Value.slice P ss.length c).ownBlock):=hg3
      clear ho3 hg3
      go_wp2
      go_ret
      refine ⟨_,rfl,?_,HNX.out.grown HG3.out HNX.out.size (fun j hj=>(World.ownsRow.lt HRW.out j hj).1)⟩
      have:=HO3.out
      rw [HFL.out,HFN.out] at this
      rw [HFN.out]
      exact this
    · intro x c kl yd yp w2 cnt2 hkey hlk hv hat hrg2 hlt hg2 hs2 hen
      obtain ⟨x',ex,rfl,_⟩:=Maps.keyOf_str Tryz.underlying9 hkey
      obtain rfl:x=x':=encStr_inj ex
      have hrow2:=hrow.kept hg2 (Or.inr (row_ne_iter hrow hrg).symm)
      have hhas:Maps.has D0 (.string x)=true:=has_true_of_atKey hat
      have HCX:Hid _:=HCL.out x w2 hhas
      have HNX2:Hid (Below w.heap.size w w2):=hnx.grown hg2 hnx.size (fun j hj=>by cases hj; exact HR1.out)
      obtain ⟨P,c',hv'⟩:=own_form hrow
      subst hv'
      have HRG2:Hid (w2.ranges Tryz.prog 9 ptrElem mb w1.heap.size k D0 (fun z=>left z && !z.sameKey (.string x)) cnt2):=hrg2
      have HRG:Hid (wr.ranges Tryz.prog 9 ptrElem mb w1.heap.size k D0 left cnt):=hrg
      have HROW2:Hid (w2.ownsRow w.heap.size 9 1 (.slice P ss.length c') ss.length (ss.map encStr)):=hrow2
      have HC2:Hid (Collected D0 (fun z=>left z && !z.sameKey (.string x)) (ss ++ [x])):=hC.step hlk hat
      have HCNT:Hid (ss.length + 1 + cnt2 ≤ k):=by show _ ≤ _; omega
      have HLT:Hid (cnt2 < cnt):=hlt
      clear hs2 hrow hrow2 hrg hrg2 hC hnx hg2 hlk hat hkey hhas hcs hlt hv hnn
      go_wp2_with fail
      refine (show Calls _ _ _ _ _ from HCX.out).mono ?_
      rintro e w3 ⟨rfl,hb3⟩
      have hrow3:=own_bel HROW2.out hb3
      have hrg3:=HRG2.out.kept (row:=none) ⟨hb3.os,hb3.tape,hb3.output,hb3.size,fun k hk _=>hb3.block k hk⟩ (by simp) (by simp)
      have HNX3:Hid (Below w.heap.size w w3):=bel_to HNX2.out hb3 (Nat.le_refl _)
      have HROW3:Hid (w3.ownsRow w.heap.size 9 1 (.slice P ss.length c') ss.length (ss.map encStr)):=hrow3
      have HRG3:Hid (w3.ranges Tryz.prog 9 ptrElem mb w1.heap.size k D0 (fun z=>left z && !z.sameKey (.string x)) cnt2):=hrg3
      clear hb3 hrow3 hrg3 hen
      go_wp2_with (first
        | (at_builtin; refine wpList_append_own _ rfl _ _ 22 rfl w.heap.size 9 i0 (.string ⟨#[]⟩) 1 16 Tryz.underlying22 hi hz0 hz1 hz2 rfl (by decide) _ _ _ rfl (HROW3.out.alloc _) ⟨w3.heap.size,0,none⟩ 1 1 [encStr x] rfl rfl (cell_one_new _ _ _) (by simp [Value.oneCell',encStr]) (by have:=HCNT.out; unfold maxLen; omega) (by have:=HCNT.out; omega) (by have:=HNX3.out.size; simp; omega) ?_; intro v' w4 hown' hg4 hnil4; go_frame)
        | go_in)
      have hrg4:=(HRG3.out.alloc _).kept hg4 (row_ne_low HROW3.out HBL.out) (row_ne_iter HROW3.out HRG3.out)
      go_roundw
      case rel =>
        refine ⟨_,cnt2,ss ++ [x],hrg4,by have:=HCNT.out; simp; omega,by simpa using hown',fun hv'=>by have:=(hnil4.1 hv').2; omega,HC2.out,?_⟩
        exact (HNX3.out.alloc HNX3.out.size _).grown hg4 (by have:=HNX3.out.size; simp; omega) (fun j hj=>(HROW3.out.lt j hj).1)
      case measure=>rw [hrg4.left_eq,HRG.out.left_eq]; exact HLT.out
end Go.Proofs.YtbgbmfmgdgalbaaGreatDoor
namespace Go.Proofs.YtbgbmfmgdgalbaaGreatDoor
open Go.RowKit Go.Maps
set_option linter.unusedVariables false
set_option linter.unusedSimpArgs false
def pprE:ET (ByteArray × ByteArray):=⟨fun x=>[.string x.1,.string x.2],2,32,41,37,.agg #[.string ⟨#[]⟩,.string ⟨#[]⟩]⟩
theorem pprOk:ETok pprE:=⟨Tryz.underlying37,by kernel_rfl,rfl,by decide,fun _=>rfl,fun x u hu=>by simp [pprE] at hu; rcases hu with rfl | rfl <;> rfl⟩
section
variable {α:Type} {E:ET α}
theorem wpList_one (ok:ETok E) {w:World} {ops:Array Oper} {rest:List Oper} {o:Oper} {a:Act} {Q':Exit → Act → World → Prop} (cs:Array Value) (x1:α) (hcs:cs.toList=E.enc x1) (hg:o.guard=none) (s x:Operand)
    (hop:o.op=Op.call { callee:=Callee.builtin Builtin.append,args:=#[s,x],argTypes:=#[E.ST,E.ST] })
    (base:Nat) (v:Value) (xs:List α) (n:Nat) (hn:n=xs.length) (hs:a.eval s=v) (hown:w.ownsRow base E.T E.k v n (E.fl xs)) (hx:a.eval x=.slice (some ⟨w.heap.size,0,none⟩) 1 1)
    (hl:xs.length + 1 ≤ maxLen) (hby:(xs.length + 1) * E.by_ ≤ 140737488355328) (hb:base ≤ w.heap.size)
    (h:∀ v' w',w'.ownsRow base E.T E.k v' (n + 1) (E.fl (xs ++ [x1])) → (w.alloc (.cells cs E.T)).grownBy w' v.ownBlock → wpList Tryz.prog ops Q' rest (a.put o.dst v') w') :
    wpList Tryz.prog ops Q' (o :: rest) a (w.alloc (.cells cs E.T)):=by
  have hb2:Below w.heap.size w (w.alloc (.cells cs E.T)):=(Below.refl _ _).alloc (Nat.le_refl _) _
  have hx2:=one_alloc w (.cells cs E.T)
  have hown2:=own_keep hown (fun q _ hq=>hb2.block q hq)
  refine wpList_app ok hg s x hop base v xs n hn hs hown2 _ [x1] hx (Or.inr ⟨w.heap.size,0,1,rfl,fun j u hu=>?_⟩) (n + 1) (by simp [hn]) (by simpa using hl) (by simpa using hby) (Nat.le_trans hb hb2.size) ?_
  · rw [cell_of_row _ _ _ _ _ _ hx2,Nat.zero_add]
    have:(E.fl [x1])=cs.toList:=by simp [ET.fl,hcs]
    rw [this] at hu
    simpa using hu
  · intro v' w' ho hgw
    exact h v' w' ho hgw
theorem own_apart {w:World} {b1 b2 e1 e2 s1 s2 n1 n2:Nat} {v1 v2:Value} {x1 x2:List Value} (h1:w.ownsRow b1 e1 s1 v1 n1 x1) (h2:w.ownsRow b2 e2 s2 v2 n2 x2) (hne:e1 ≠ e2) {k:Nat} (hk:v1.ownBlock=some k):some k ≠ v2.ownBlock:=fun e=>by
  obtain ⟨c1,hc1⟩:=own_type h1 hk
  obtain ⟨c2,hc2⟩:=own_type h2 e.symm
  have:=hc1.symm.trans hc2
  injection this with this
  injection this with _ h3
  exact hne h3
end
set_option maxRecDepth 100000 in
set_option maxHeartbeats 2000000 in
theorem pairs_any (F:Nat) (eF:∀ args w,(callFunc F args).run Tryz.prog w=.ok (.enter F args) w) (val:ByteArray → ByteArray) (mb k:Nat) (f:ByteArray → Option Nat) (L:List ByteArray) (hL:NamesOf f L) (hk:k ≤ 1048576) (hLk:L.length ≤ 1048576) (hsz:∀ m ∈ L,m.size ≤ 281474976710656) (w:World) (h:MapIs w mb k f)
    (hF:∀ m b,f m=some b → ∀ W',Below w.heap.size w W' → Calls Tryz.prog F #[ptr (some b)] W' fun e w'=>e=.returned (.string (val m))∧Below W'.heap.size W' w') :
    Calls Tryz.prog 34 #[.map (some mb),.func (.func F) #[] #[]] w fun e w'=>∃ v,e=.returned v∧w'.ownsRow w.heap.size 41 2 v L.length (pprE.fl (L.map fun m=>(m,val m)))∧Below w.heap.size w w':=by
  obtain ⟨i0,hi,hz0,hz1,hz2⟩:=info_of pprOk.inf
  have hlen:=fun ty=>h.len ty
  have HNA:Hid (∀ W,Below w.heap.size w W → Calls Tryz.prog 74 #[.map (some mb)] W fun e w'=>∃ v,e=.returned v∧w'.ownsRow W.heap.size 9 1 v L.length (psE.fl L)∧Below W.heap.size W w'):=fun W hb=>names_any mb k f L hL hk hsz W (h.to (hb.block mb h.lt))
  have HMP:Hid (MapIs w mb k f):=h
  have HF:Hid (∀ m b,f m=some b → ∀ W',Below w.heap.size w W' → Calls Tryz.prog F #[ptr (some b)] W' fun e w'=>e=.returned (.string (val m))∧Below W'.heap.size W' w'):=hF
  have HLM:Hid (∀ j (hj:j < L.length),∃ b,f L[j]=some b):=fun j hj=>Option.isSome_iff_exists.1 ((hL.mem _).1 (List.getElem_mem hj))
  have HEF:Hid _:=eF
  have HLS:Hid (∀ m ∈ L,m.size ≤ 281474976710656):=hsz
  clear h hF hL hsz
  go_enter Tryz.func34,Tryz.ntmps34
  go_upto_region 2 with (first
    | (at_make; refine wpList_make_own _ rfl _ _ 37 rfl w.heap.size 41 i0 (.agg #[.string ⟨#[]⟩,.string ⟨#[]⟩]) 2 Tryz.underlying37 hi hz0 hz1 _ _ _ k rfl rfl rfl (by rw [hz2]; show 32 * _ ≤ _; omega) (by unfold maxLen; omega) (Nat.le_refl _) ?_; intro w1 hrow1 hg1)
    | go_in)
  have hb1:Below w.heap.size w w1:=(Below.refl _ _).grown hg1 (Nat.le_refl _) (fun j hj=>by cases hj)
  have HR1:Hid (w1.ownsRow w.heap.size 41 2 (.slice (some ⟨w.heap.size,0,none⟩) 0 k) 0 []):=hrow1
  have HB1:Hid (Below w.heap.size w w1):=hb1
  clear hrow1 hg1 hb1 hlen
  go_wp2_with fail
  refine (show Calls _ _ _ _ _ from HNA.out w1 HB1.out).mono ?_
  rintro e w2 ⟨v,rfl,ho2,hb2⟩
  obtain ⟨P,c,rfl⟩:=own_form ho2
  have HN2:Hid (w2.ownsRow w1.heap.size 9 1 (.slice P L.length c) L.length (psE.fl L)):=ho2
  have HR2:Hid (w2.ownsRow w.heap.size 41 2 (.slice (some ⟨w.heap.size,0,none⟩) 0 k) 0 []):=own_bel HR1.out hb2
  have HB2:Hid (Below w.heap.size w w2):=bel_to HB1.out hb2 (Nat.le_refl _)
  clear ho2 hb2
  go_wp2
  go_loopw [14,5] (fun ci cv wr=>∃ i:Nat,i ≤ L.length∧ci=.int .i64 (i:Int)∧Below w.heap.size w wr∧wr.ownsRow w1.heap.size 9 1 (.slice P L.length c) L.length (psE.fl L)∧wr.ownsRow w.heap.size 41 2 cv i (pprE.fl ((L.take i).map fun m=>(m,val m)))) (fun ci _ _=>L.length - (intOf ci).toNat)
  case atStart=>exact ⟨0,by omega,rfl,HB2.out,HN2.out,HR2.out⟩
  case round =>
    obtain ⟨i,hi',rfl,hb,hnr,hrow⟩:=hrel
    obtain ⟨Pv,cv',hcv⟩:=own_form hrow
    subst hcv
    have HBW:Hid (Below w.heap.size w wr):=hb
    have HNR:Hid (wr.ownsRow w1.heap.size 9 1 (.slice P L.length c) L.length (psE.fl L)):=hnr
    have HRW:Hid (wr.ownsRow w.heap.size 41 2 (.slice Pv i cv') i (pprE.fl ((L.take i).map fun m=>(m,val m)))):=hrow
    clear hb hrow hnr
    by_cases hlt:i < L.length
    · obtain ⟨g,o,c',he,hc⟩:=(KR.own (E:=psE) HNR.out rfl).cell psOk hlt
      injection he with he1 _ he2
      subst he1
      have c0:wr.cell? ⟨g,o + i * 1,none⟩=some (.string L[i]):=hc 0 _ rfl
      rw [Nat.mul_one] at c0
      have hz0:(0:Int) ≤ (i:Int):=by omega
      have hz1:(i:Int) < (L.length:Int):=by omega
      have hiw:IntKind.i64.wrap ((i:Int) + 1)=(i:Int) + 1:=by rw [IntKind.wrap_i64] <;> omega
      obtain ⟨b,hfb⟩:=HLM.out i hlt
      have hXs:=HLS.out L[i] (List.getElem_mem hlt)
      have HTK:Hid ((L.take (i + 1)).map (fun m=>(m,val m))=(L.take i).map (fun m=>(m,val m)) ++ [(L[i],val L[i])]):=by
        show _=_
        rw [List.take_add_one,List.getElem?_eq_getElem hlt,List.map_append]; rfl
      obtain ⟨X,hX⟩:∃ X,L[i]=X:=⟨_,rfl⟩
      rw [hX] at c0 hfb HTK hXs
      have hlk:=(HMP.out.to (HBW.out.block mb HMP.out.lt)).look (m:=X) (by unfold maxLen; omega)
      rw [hfb] at hlk
      have HCL:Hid _:=HF.out X b hfb wr HBW.out
      have HLI:Hid (((L.take i).map (fun m=>(m,val m))).length=i):=by show _=_; simp; omega
      have heF:=HEF.out
      clear hc he2 hX hfb
      unfold ptr at hlk HCL
      go_wp2_with fail
      refine (show Calls _ _ _ _ _ from HCL.out).mono ?_
      rintro e w3 ⟨rfl,hb3⟩
      have HB3:Hid (Below w.heap.size w w3):=bel_to HBW.out hb3 (Nat.le_refl _)
      have HN3:Hid (w3.ownsRow w1.heap.size 9 1 (.slice (some ⟨g,o,none⟩) L.length c) L.length (psE.fl L)):=own_bel HNR.out hb3
      have HR3:Hid (w3.ownsRow w.heap.size 41 2 (.slice Pv i cv') i (pprE.fl ((L.take i).map fun m=>(m,val m)))):=own_bel HRW.out hb3
      have HWS:Hid (w.heap.size ≤ w3.heap.size):=by have:=HBW.out.size; have:=hb3.size; show _ ≤ _; omega
      clear hb3 c0 hlk heF
      go_wp2_with (first
        | (at_builtin; refine wpList_one pprOk #[.string X,.string (val X)] (X,val X) rfl rfl _ _ rfl w.heap.size _ ((L.take i).map fun m=>(m,val m)) i HLI.out.symm rfl HR3.out rfl (by rw [HLI.out]; unfold maxLen; omega) (by rw [HLI.out]; show _ * 32 ≤ _; omega) HWS.out ?_; intro v4 w4 ho4 hg4; obtain ⟨P4,k4,hf4⟩:=own_form ho4; subst hf4)
        | go_in)
      go_roundw
      case rel =>
        refine ⟨i + 1,hlt,rfl,?_,?_,?_⟩
        · exact (HB3.out.alloc HB3.out.size _).grown hg4 (by have:=HB3.out.size; simp; omega) (fun j hj=>(HR3.out.lt j hj).1)
        · refine own_to HN3.out (fun q hq=>?_)
          have hq3:=own_lt HN3.out hq
          exact (hg4.block q (by simp; omega) (own_apart HN3.out HR3.out (by decide) hq)).trans (heap_alloc_old _ _ hq3)
        · rw [HTK.out]; exact ho4
      case measure=>simp [intOf]; omega
    · have he:i=L.length:=by omega
      subst he
      go_wp2
      go_ret
      refine ⟨_,rfl,?_,HBW.out⟩
      have:=HRW.out
      rw [List.take_length] at this
      exact this
end Go.Proofs.YtbgbmfmgdgalbaaGreatDoor
