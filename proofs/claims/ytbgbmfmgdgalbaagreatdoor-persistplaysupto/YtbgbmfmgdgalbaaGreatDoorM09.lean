import Derived.Test.YtbgbmfmgdgalbaaGreatDoorM08
import Derived.Test.YtbgbmfmgdgalbaaGreatDoorSortS
import Derived.Sort.KeysCollected
import Derived.Sort.OwnSorted
import Derived.OwnWalk
namespace Go.Proofs.YtbgbmfmgdgalbaaGreatDoor
open Go.RowKit
set_option linter.unusedVariables false
set_option linter.unusedSimpArgs false
theorem ext_all (d:ByteArray):d.extract 0 d.size=d:=by
  refine ByteArray.ext (Array.toList_inj.1 ?_)
  rw [ext_any,List.drop_zero,Nat.sub_zero,← list_len,List.take_length]
set_option maxHeartbeats 4000000 in
set_option maxRecDepth 100000 in
theorem keep_any (b i:Nat) (x:Fi) (pv:Value) (ps:List ByteArray) (k:Nat) (w:World) (h:FileAt w b i x pv ps) (hk:x.s + k ≤ x.d.size) :
    Calls Tryz.prog 86 #[ptr (some b),.int .i64 (k:Int)] w fun e w'=>e=.returned (.tuple #[])∧∃ pv' ps',FileAt w' b i (cutF x k) pv' ps'∧ModP (fun j=>j=b) w w'∧Loc w pv pv':=by
  obtain ⟨d0,d1,d2,d3,df⟩:=file_cells h.blk
  have f1:=df 1
  have f2:=df 2
  have hbig:=h.big
  obtain ⟨sz,hsz⟩:∃ sz,x.d.size=sz:=⟨_,rfl⟩
  obtain ⟨sf,hsf⟩:∃ sf,x.s=sf:=⟨_,rfl⟩
  have HSZ:Hid (x.d.size=sz):=hsz
  have HSF:Hid (x.s=sf):=hsf
  rw [hsz,hsf] at hk
  rw [hsz] at d2 hbig
  rw [hsf] at d3
  have hw1:IntKind.i64.wrap ((sf:Int) + (k:Int))=((sf + k:Nat):Int):=by rw [IntKind.wrap_i64] <;> omega
  obtain ⟨lf,hlf⟩:∃ lf,sf + k=lf:=⟨_,rfl⟩
  rw [hlf] at hw1 hk
  have HLF:Hid (sf + k=lf):=hlf
  have HF:Hid (FileAt w b i x pv ps):=h
  clear df hsz hsf hlf
  by_cases hlt:lf < sz
  · have hz:(lf:Int) < (sz:Int):=by omega
    have HFI:Hid (Calls Tryz.prog 36 #[ptr (some b),.int .i64 (lf:Int)] w fun e w'=>e=.returned (.string (x.d.extract 0 lf))∧Below w.heap.size w w'):=h.first lf (by rw [HSZ.out]; omega)
    clear h
    unfold ptr at HFI ⊢
    go_enter Tryz.func86,Tryz.ntmps86
    go_wp2_with fail
    refine (show Calls _ _ _ _ _ from HFI.out).mono ?_
    rintro e w1 ⟨rfl,hb1⟩
    have hb2:Below w.heap.size w (w1.alloc (.cells #[.string (x.d.extract 0 lf)] 9)):=hb1.alloc (hb1.size) _
    have hbk2:=(hb2.block b (row_lt HF.out.blk)).trans HF.out.blk
    obtain ⟨W2,hW2⟩:∃ W2,W2=w1.alloc (.cells #[.string (x.d.extract 0 lf)] 9):=⟨_,rfl⟩
    have hnew:W2.heap[w1.heap.size]?=some (.cells #[.string (x.d.extract 0 lf)] 9):=by rw [hW2]; exact one_alloc _ _
    rw [← hW2] at hb2 hbk2
    obtain ⟨R,hR⟩:∃ R,w1.heap.size=R:=⟨_,rfl⟩
    rw [hR] at hnew
    have HRL:Hid (w.heap.size ≤ R):=by have:=hb1.size; show _ ≤ _; omega
    obtain ⟨y0,y1,y2,y3,yf⟩:=file_cells hbk2
    have yf1:=yf 1
    obtain ⟨W3,hW3⟩:∃ W3,W2.setCell ⟨b,1,none⟩ (.slice (some ⟨R,0,none⟩) 1 1)=W3:=⟨_,rfl⟩
    have hbk3:W3.heap[b]?=some (.cells #[.int .i64 ((i + 1:Nat):Int),.slice (some ⟨R,0,none⟩) 1 1,.int .i64 (x.d.size:Int),.int .i64 (x.s:Int)] 85):=by rw [← hW3]; exact heap_setCell_same W2 b 1 _ _ _ hbk2
    have ho3:Only W2 W3 b:=by rw [← hW3]; exact (Only.refl _ _).set _ _
    obtain ⟨z0,z1,z2,z3,zf⟩:=file_cells hbk3
    have zf2:=zf 2
    obtain ⟨W4,hW4⟩:∃ W4,W3.setCell ⟨b,2,none⟩ (.int .i64 (lf:Int))=W4:=⟨_,rfl⟩
    have hbk4:W4.heap[b]?=some (.cells #[.int .i64 ((i + 1:Nat):Int),.slice (some ⟨R,0,none⟩) 1 1,.int .i64 (lf:Int),.int .i64 (x.s:Int)] 85):=by rw [← hW4]; exact heap_setCell_same W3 b 2 _ _ _ hbk3
    have ho4:Only W2 W4 b:=by rw [← hW4]; exact ho3.set _ _
    have HSY:Hid _:=sync_any b _ _ _ _ W4 hbk4
    have hbR:b ≠ R:=fun e=>by
      subst e
      have:=hbk2.symm.trans hnew
      injection this with this
      injection this with h1 _
      have:=congrArg Array.size h1
      simp at this
    have HNEW:Hid (W4.heap[R]?=some (.cells #[.string (x.d.extract 0 lf)] 9)):=(ho4.other R (Ne.symm hbR)).trans hnew
    have HBR:Hid (b ≠ R):=hbR
    have HM4:Hid (ModP (fun j=>j=b) w W4):=(ModP.below hb2).trans (ModP.only ho4 rfl)
    have hW2':w1.alloc (.cells #[.string (x.d.extract 0 lf)] 9)=W2:=hW2.symm
    unfold ptr at HSY
    clear hW2 hb1 hb2 hbk2 hnew yf d0 d1 d2 d3 f1 f2 hbk3 ho3 zf hbk4 ho4 hbR y0 y2 y3 z0 z1 z3
    go_wp2_with fail
    refine (show Calls _ _ _ _ _ from HSY.out).mono ?_
    rintro e w5 ⟨rfl,hb5,ho5⟩
    have HB5:Hid _:=hb5
    have HO5:Hid (Only W4 w5 b):=ho5
    clear hb5 ho5
    go_wp2
    go_end0
    refine ⟨rfl,.slice (some ⟨R,0,none⟩) 1 1,[x.d.extract 0 lf],⟨?_,?_,?_,?_,?_,?_⟩,HM4.out.trans (ModP.only HO5.out rfl),Or.inr (fun q hq=>by cases hq; exact HRL.out)⟩
    · have e1:(cutF x k).d.size=lf:=by unfold cutF; simp only []; rw [HSF.out,HLF.out]; exact (ext_size _ _ _ (by rw [HSZ.out]; omega)).trans (by omega)
      have e2:(cutF x k).s=lf:=by unfold cutF; simp only []; rw [HSF.out,HLF.out]
      rw [e1,e2]; exact HB5.out
    · refine ⟨rfl,Or.inr ⟨R,1,#[.string (x.d.extract 0 lf)],rfl,Nat.zero_le _,(HO5.out.other R (Ne.symm HBR.out)).trans HNEW.out,Nat.le_refl _,by unfold maxLen; omega,rfl,rfl⟩⟩
    · rw [joinB_one]; unfold cutF; simp only []; rw [HSF.out,HLF.out]
    · simp
    · have e1:(cutF x k).d.size=lf:=by unfold cutF; simp only []; rw [HSF.out,HLF.out]; exact (ext_size _ _ _ (by rw [HSZ.out]; omega)).trans (by omega)
      rw [e1]; omega
    · have e1:(cutF x k).d.size=lf:=by unfold cutF; simp only []; rw [HSF.out,HLF.out]; exact (ext_size _ _ _ (by rw [HSZ.out]; omega)).trans (by omega)
      have e2:(cutF x k).s=lf:=by unfold cutF; simp only []; rw [HSF.out,HLF.out]
      rw [e1,e2]; exact Nat.le_refl _
  · have he:lf=sz:=by omega
    have HSY:Hid _:=sync_any b _ _ _ _ w h.blk
    clear h
    have hz:¬ (lf:Int) < (sz:Int):=by omega
    unfold ptr at HSY ⊢
    go_enter Tryz.func86,Tryz.ntmps86
    go_wp2_with fail
    refine (show Calls _ _ _ _ _ from HSY.out).mono ?_
    rintro e w5 ⟨rfl,hb5,ho5⟩
    have HB5:Hid _:=hb5
    have HO5:Hid (Only w w5 b):=ho5
    clear hb5 ho5
    go_wp2
    go_end0
    have e3:x.d.extract 0 (x.s + k)=x.d:=by rw [HSF.out,HLF.out,he,← HSZ.out]; exact ext_all _
    have e4:x.s + k=x.d.size:=by rw [HSF.out,HLF.out,he,HSZ.out]
    refine ⟨rfl,pv,ps,⟨?_,?_,?_,?_,?_,?_⟩,ModP.only HO5.out rfl,Or.inl rfl⟩
    · unfold cutF; simp only []; rw [e3,e4]; exact HB5.out
    · exact own_to HF.out.own (fun q hq=>HO5.out.other q (HF.out.ne hq))
    · unfold cutF; simp only []; rw [e3]; exact HF.out.jn
    · unfold cutF; simp only []; rw [e3]; exact HF.out.few
    · unfold cutF; simp only []; rw [e3]; exact HF.out.big
    · unfold cutF; simp only []; rw [e3,e4]; exact Nat.le_refl _
end Go.Proofs.YtbgbmfmgdgalbaaGreatDoor
namespace Go.Proofs.YtbgbmfmgdgalbaaGreatDoor
open Go.RowKit Go.Maps Go.Sort
set_option linter.unusedVariables false
set_option linter.unusedSimpArgs false
theorem byl_lt:∀ x y:List UInt8,Op.bytesLess x y=true → x < y
  | _,[],h=>by simp [Op.bytesLess] at h
  | [],_ :: _,_=>List.nil_lt_cons _ _
  | a :: x,b :: y,h=>by
    simp only [Op.bytesLess,Bool.or_eq_true,decide_eq_true_eq,Bool.and_eq_true,beq_iff_eq] at h
    rw [List.cons_lt_cons_iff]
    rcases h with h | ⟨rfl,h⟩
    · exact Or.inl h
    · exact Or.inr ⟨rfl,byl_lt x y h⟩
structure NamesOf (f:ByteArray → Option Nat) (L:List ByteArray):Prop where
  rise:L.Pairwise fun a b=>ltB a b=true
  mem:∀ m,m ∈ L ↔ (f m).isSome=true
theorem sorted_names {f:ByteArray → Option Nat} {L:List ByteArray} (h:NamesOf f L) {ss:List (List UInt8)} (hn:ss.Nodup) (hm:∀ x,x ∈ ss ↔ (f ⟨x.toArray⟩).isSome=true):(ss.mergeSort fun x y=>decide (x ≤ y))=L.map fun s=>s.data.toList:=by
  have hp:(L.map fun s=>s.data.toList).Pairwise fun x y=>x < y:=by
    rw [List.pairwise_map]
    refine h.rise.imp (fun {a b} hab=>?_)
    unfold ltB at hab
    rw [ByteArray.toList_eq,ByteArray.toList_eq] at hab
    exact byl_lt _ _ hab
  have hnd:(L.map fun s=>s.data.toList).Nodup:=hp.imp (fun {a b} hab e=>by subst e; exact List.lt_irrefl _ hab)
  have hperm:ss.Perm (L.map fun s=>s.data.toList):=by
    refine (List.perm_ext_iff_of_nodup hn hnd).2 (fun x=>?_)
    rw [hm x,← h.mem,List.mem_map]
    constructor
    · intro hx; exact ⟨_,hx,rfl⟩
    · rintro ⟨s,hs,rfl⟩; exact hs
  have e:=mergeSort_of_perm hperm
  show ss.mergeSort leB=_
  rw [e]
  refine List.mergeSort_of_pairwise (hp.imp (fun {a b} hab=>?_))
  simp only [leB,decide_eq_true_eq]
  exact List.le_of_lt hab
theorem sort_own (base:Nat) (v:Value) (ss:List (List UInt8)) (hl:ss.length ≤ 8796093022208) (w:World) (hv:v ≠ .slice none 0 0) (h:w.ownsRow base 9 1 v ss.length (ss.map encStr)) :
    Calls Tryz.prog 118 #[v] w fun e w'=>e=.returned (.tuple #[])∧w'.ownsRow base 9 1 v ss.length ((ss.mergeSort fun x y=>decide (x ≤ y)).map encStr)∧w.grownBy w' v.ownBlock:=by
  rcases h.2 with ⟨hnil,_⟩ | ⟨g,cap,cur,rfl,hbase,hb,h1,h2,h3,h4⟩
  · exact absurd hnil hv
  · refine (Tryz.slices_Sort_string g 0 cap ss w (holds_of_block hb (by simpa using h4)) (row_lt hb) (by omega)).mono ?_
    rintro e w' ⟨rfl,n,os,rfl⟩
    exact ⟨rfl,ownsRow_sorted (by simp) hbase hb h1 h2 h3,grownBy_sorted _⟩
theorem psE_enc (L:List ByteArray):psE.fl L=(L.map fun s=>s.data.toList).map encStr:=by
  induction L with
  | nil=>rfl
  | cons s L ih =>
    show Value.string s :: psE.fl L=_
    rw [ih]; rfl
theorem ptrElem_shape (v:Value) (y:DataW Unit × List MemPlace) (h:ptrElem v=some y):∃ c,v=ptr c:=by
  obtain ⟨o,rfl,_⟩:=ptrElem_inv h; exact ⟨o,rfl⟩
set_option maxRecDepth 100000 in
set_option maxHeartbeats 2000000 in
theorem names_any (mb k:Nat) (f:ByteArray → Option Nat) (L:List ByteArray) (hL:NamesOf f L) (hk:k ≤ 1048576) (hsz:∀ m ∈ L,m.size ≤ 281474976710656) (w:World) (h:MapIs w mb k f) :
    Calls Tryz.prog 74 #[.map (some mb)] w fun e w'=>∃ v,e=.returned v∧w'.ownsRow w.heap.size 9 1 v L.length (psE.fl L)∧Below w.heap.size w w':=by
  obtain ⟨D0,hown,hD⟩:=h
  obtain ⟨i0,hi,hz0,hz1,hz2⟩:=info_of psOk.inf
  have hbl:=hown.lt
  have HKS:Hid (Maps.size D0=k):=hD.siz
  have HCL:Hid (∀ (x:List UInt8) W,Maps.has D0 (.string x)=true → Calls Tryz.prog 117 #[encStr x] W fun e w'=>e=.returned (encStr x)∧Below W.heap.size W w'):=fun x W hx=>clone_any ⟨x.toArray⟩ (hsz _ ((hL.mem _).2 (by rw [← hD.has ⟨x.toArray⟩]; exact hx))) W
  have HFIN:Hid (∀ ss:List (List UInt8),ss.Nodup → (∀ x,x ∈ ss ↔ Maps.has D0 (.string x)=true) → (ss.mergeSort fun x y=>decide (x ≤ y)).map encStr=psE.fl L∧ss.length=L.length):=fun ss hn hm=>by
    have e:=sorted_names hL hn (fun x=>by rw [hm x]; have:=hD.has ⟨x.toArray⟩; simpa using congrArg (·=true) this)
    refine ⟨by rw [e,psE_enc],?_⟩
    have:=congrArg List.length e
    simpa using this
  go_enter Tryz.func74,Tryz.ntmps74
  go_wp2_with (first
    | (at_len; refine wpList_len_own _ rfl _ 70 rfl 9 83 Tryz.underlying70 _ mb k _ rfl hown ?_)
    | (at_make; refine wpList_make_own _ rfl _ _ 22 rfl w.heap.size 9 i0 (.string ⟨#[]⟩) 1 Tryz.underlying22 hi hz0 hz1 _ _ _ (Maps.size D0) rfl rfl rfl (by rw [hz2,HKS.out]; show 16 * _ ≤ _; omega) (by rw [HKS.out]; unfold maxLen; omega) (Nat.le_refl _) ?_; intro w1 hrow1 hg1)
    | (at_range; refine wpList_range_own _ rfl _ 70 rfl 9 83 lawK Tryz.underlying70 _ mb k _ rfl (hown.kept hg1 (by simp)) ?_; intro w0 hrg0 hg0 hs0)
    | go_in)
  go_frame
  have HR1:Hid (w.heap.size ≤ w1.heap.size):=hg1.size
  have HBL:Hid (mb < w.heap.size):=hbl
  have HOWN:Hid (w.ownsMap Tryz.prog 9 ptrElem mb k D0):=hown
  go_loopw [3] (fun v wr=>∃ (left:Lit → Bool) (cnt:Nat) (ss:List (List UInt8)),wr.ranges Tryz.prog 9 ptrElem mb w1.heap.size k D0 left cnt∧ss.length + cnt ≤ k ∧
      wr.ownsRow w.heap.size 9 1 v ss.length (ss.map encStr)∧v ≠ .slice none 0 0∧Collected D0 left ss∧Below w.heap.size w wr)
    (fun _ wr=>wr.rangeLeft mb w1.heap.size)
  case atStart =>
    exact ⟨_,_,[],hrg0,by rw [HKS.out]; simp,hrow1.kept hg0 (Or.inr (by simp [Value.ownBlock])),by simp,Collected.start D0,
      ((Below.refl _ _).grown hg1 (Nat.le_refl _) (fun j hj=>by cases hj)).grown hg0 hg1.size (fun j hj=>by cases hj)⟩
  case round =>
    obtain ⟨left,cnt,ss,hrg,hcs,hrow,hnn,hC,hnx⟩:=hrel
    clear hrow1 hg1 hrg0 hg0 hs0 hbl hown
    go_wp2_with (first
      | (at_next; refine wpList_next_ranges _ rfl _ rfl 9 lawK ptrElem encStr ptr (fun key kl hk=>by obtain ⟨x,hx,_⟩:=Maps.keyOf_str Tryz.underlying9 hk; exact ⟨x,hx⟩) ptrElem_shape mb w1.heap.size k _ _ _ rfl hrg ?_ ?_)
      | go_in)
    · intro hc0 hl0
      have HNX:Hid (Below w.heap.size w wr):=hnx
      obtain ⟨hfl,hfn⟩:=HFIN.out ss hC.1 (fun x=>by rw [hC.2 x,hl0]; simp)
      have HSO:Hid _:=sort_own w.heap.size _ ss (by omega) wr hnn hrow
      have HFL:Hid _:=hfl
      have HFN:Hid (ss.length=L.length):=hfn
      obtain ⟨P,c,hv⟩:=own_form hrow
      subst hv
      have HRW:Hid (wr.ownsRow w.heap.size 9 1 (.slice P ss.length c) ss.length (ss.map encStr)):=hrow
      clear hrow hnn hC hrg hnx hfl hfn hcs
      go_wp2_with fail
      refine (show Calls _ _ _ _ _ from HSO.out).mono ?_
      rintro e w3 ⟨rfl,ho3,hg3⟩
      have HO3:Hid (w3.ownsRow w.heap.size 9 1 (.slice P ss.length c) ss.length ((ss.mergeSort fun x y=>decide (x ≤ y)).map encStr)):=ho3
      have HG3:Hid (wr.grownBy w3 (Value.slice P ss.length c).ownBlock):=hg3
      clear ho3 hg3
      go_wp2
      go_ret
      refine ⟨_,rfl,?_,HNX.out.grown HG3.out HNX.out.size (fun j hj=>(World.ownsRow.lt HRW.out j hj).1)⟩
      have:=HO3.out
      rw [HFL.out,HFN.out] at this
      rw [HFN.out]
      exact this
    · intro x c kl yd yp w2 cnt2 hkey hlk hv hat hrg2 hlt hg2 hs2 hen
      obtain ⟨x',ex,rfl,_⟩:=Maps.keyOf_str Tryz.underlying9 hkey
      obtain rfl:x=x':=encStr_inj ex
      have hrow2:=hrow.kept hg2 (Or.inr (row_ne_iter hrow hrg).symm)
      have hhas:Maps.has D0 (.string x)=true:=has_true_of_atKey hat
      have HCX:Hid _:=HCL.out x w2 hhas
      have HNX2:Hid (Below w.heap.size w w2):=hnx.grown hg2 hnx.size (fun j hj=>by cases hj; exact HR1.out)
      obtain ⟨P,c',hv'⟩:=own_form hrow
      subst hv'
      have HRG2:Hid (w2.ranges Tryz.prog 9 ptrElem mb w1.heap.size k D0 (fun z=>left z && !z.sameKey (.string x)) cnt2):=hrg2
      have HRG:Hid (wr.ranges Tryz.prog 9 ptrElem mb w1.heap.size k D0 left cnt):=hrg
      have HROW2:Hid (w2.ownsRow w.heap.size 9 1 (.slice P ss.length c') ss.length (ss.map encStr)):=hrow2
      have HC2:Hid (Collected D0 (fun z=>left z && !z.sameKey (.string x)) (ss ++ [x])):=hC.step hlk hat
      have HCNT:Hid (ss.length + 1 + cnt2 ≤ k):=by show _ ≤ _; omega
      have HLT:Hid (cnt2 < cnt):=hlt
      clear hs2 hrow hrow2 hrg hrg2 hC hnx hg2 hlk hat hkey hhas hcs hlt hv hnn
      go_wp2_with fail
      refine (show Calls _ _ _ _ _ from HCX.out).mono ?_
      rintro e w3 ⟨rfl,hb3⟩
      have hrow3:=own_bel HROW2.out hb3
      have hrg3:=HRG2.out.kept (row:=none) ⟨hb3.os,hb3.tape,hb3.output,hb3.size,fun k hk _=>hb3.block k hk⟩ (by simp) (by simp)
      have HNX3:Hid (Below w.heap.size w w3):=bel_to HNX2.out hb3 (Nat.le_refl _)
      have HROW3:Hid (w3.ownsRow w.heap.size 9 1 (.slice P ss.length c') ss.length (ss.map encStr)):=hrow3
      have HRG3:Hid (w3.ranges Tryz.prog 9 ptrElem mb w1.heap.size k D0 (fun z=>left z && !z.sameKey (.string x)) cnt2):=hrg3
      clear hb3 hrow3 hrg3 hen
      go_wp2_with (first
        | (at_builtin; refine wpList_append_own _ rfl _ _ 22 rfl w.heap.size 9 i0 (.string ⟨#[]⟩) 1 16 Tryz.underlying22 hi hz0 hz1 hz2 rfl (by decide) _ _ _ rfl (HROW3.out.alloc _) ⟨w3.heap.size,0,none⟩ 1 1 [encStr x] rfl rfl (cell_one_new _ _ _) (by simp [Value.oneCell',encStr]) (by have:=HCNT.out; unfold maxLen; omega) (by have:=HCNT.out; omega) (by have:=HNX3.out.size; simp; omega) ?_; intro v' w4 hown' hg4 hnil4; go_frame)
        | go_in)
      have hrg4:=(HRG3.out.alloc _).kept hg4 (row_ne_low HROW3.out HBL.out) (row_ne_iter HROW3.out HRG3.out)
      go_roundw
      case rel =>
        refine ⟨_,cnt2,ss ++ [x],hrg4,by have:=HCNT.out; simp; omega,by simpa using hown',fun hv'=>by have:=(hnil4.1 hv').2; omega,HC2.out,?_⟩
        exact (HNX3.out.alloc HNX3.out.size _).grown hg4 (by have:=HNX3.out.size; simp; omega) (fun j hj=>(HROW3.out.lt j hj).1)
      case measure=>rw [hrg4.left_eq,HRG.out.left_eq]; exact HLT.out
end Go.Proofs.YtbgbmfmgdgalbaaGreatDoor
namespace Go.Proofs.YtbgbmfmgdgalbaaGreatDoor
open Go.RowKit Go.Maps
set_option linter.unusedVariables false
set_option linter.unusedSimpArgs false
def pprE:ET (ByteArray × ByteArray):=⟨fun x=>[.string x.1,.string x.2],2,32,41,37,.agg #[.string ⟨#[]⟩,.string ⟨#[]⟩]⟩
theorem pprOk:ETok pprE:=⟨Tryz.underlying37,by kernel_rfl,rfl,by decide,fun _=>rfl,fun x u hu=>by simp [pprE] at hu; rcases hu with rfl | rfl <;> rfl⟩
section
variable {α:Type} {E:ET α}
theorem wpList_one (ok:ETok E) {w:World} {ops:Array Oper} {rest:List Oper} {o:Oper} {a:Act} {Q':Exit → Act → World → Prop} (cs:Array Value) (x1:α) (hcs:cs.toList=E.enc x1) (hg:o.guard=none) (s x:Operand)
    (hop:o.op=Op.call { callee:=Callee.builtin Builtin.append,args:=#[s,x],argTypes:=#[E.ST,E.ST] })
    (base:Nat) (v:Value) (xs:List α) (n:Nat) (hn:n=xs.length) (hs:a.eval s=v) (hown:w.ownsRow base E.T E.k v n (E.fl xs)) (hx:a.eval x=.slice (some ⟨w.heap.size,0,none⟩) 1 1)
    (hl:xs.length + 1 ≤ maxLen) (hby:(xs.length + 1) * E.by_ ≤ 140737488355328) (hb:base ≤ w.heap.size)
    (h:∀ v' w',w'.ownsRow base E.T E.k v' (n + 1) (E.fl (xs ++ [x1])) → (w.alloc (.cells cs E.T)).grownBy w' v.ownBlock → wpList Tryz.prog ops Q' rest (a.put o.dst v') w') :
    wpList Tryz.prog ops Q' (o :: rest) a (w.alloc (.cells cs E.T)):=by
  have hb2:Below w.heap.size w (w.alloc (.cells cs E.T)):=(Below.refl _ _).alloc (Nat.le_refl _) _
  have hx2:=one_alloc w (.cells cs E.T)
  have hown2:=own_keep hown (fun q _ hq=>hb2.block q hq)
  refine wpList_app ok hg s x hop base v xs n hn hs hown2 _ [x1] hx (Or.inr ⟨w.heap.size,0,1,rfl,fun j u hu=>?_⟩) (n + 1) (by simp [hn]) (by simpa using hl) (by simpa using hby) (Nat.le_trans hb hb2.size) ?_
  · rw [cell_of_row _ _ _ _ _ _ hx2,Nat.zero_add]
    have:(E.fl [x1])=cs.toList:=by simp [ET.fl,hcs]
    rw [this] at hu
    simpa using hu
  · intro v' w' ho hgw
    exact h v' w' ho hgw
theorem own_apart {w:World} {b1 b2 e1 e2 s1 s2 n1 n2:Nat} {v1 v2:Value} {x1 x2:List Value} (h1:w.ownsRow b1 e1 s1 v1 n1 x1) (h2:w.ownsRow b2 e2 s2 v2 n2 x2) (hne:e1 ≠ e2) {k:Nat} (hk:v1.ownBlock=some k):some k ≠ v2.ownBlock:=fun e=>by
  obtain ⟨c1,hc1⟩:=own_type h1 hk
  obtain ⟨c2,hc2⟩:=own_type h2 e.symm
  have:=hc1.symm.trans hc2
  injection this with this
  injection this with _ h3
  exact hne h3
end
set_option maxRecDepth 100000 in
set_option maxHeartbeats 2000000 in
theorem pairs_any (F:Nat) (eF:∀ args w,(callFunc F args).run Tryz.prog w=.ok (.enter F args) w) (val:ByteArray → ByteArray) (mb k:Nat) (f:ByteArray → Option Nat) (L:List ByteArray) (hL:NamesOf f L) (hk:k ≤ 1048576) (hLk:L.length ≤ 1048576) (hsz:∀ m ∈ L,m.size ≤ 281474976710656) (w:World) (h:MapIs w mb k f)
    (hF:∀ m b,f m=some b → ∀ W',Below w.heap.size w W' → Calls Tryz.prog F #[ptr (some b)] W' fun e w'=>e=.returned (.string (val m))∧Below W'.heap.size W' w') :
    Calls Tryz.prog 34 #[.map (some mb),.func (.func F) #[] #[]] w fun e w'=>∃ v,e=.returned v∧w'.ownsRow w.heap.size 41 2 v L.length (pprE.fl (L.map fun m=>(m,val m)))∧Below w.heap.size w w':=by
  obtain ⟨i0,hi,hz0,hz1,hz2⟩:=info_of pprOk.inf
  have hlen:=fun ty=>h.len ty
  have HNA:Hid (∀ W,Below w.heap.size w W → Calls Tryz.prog 74 #[.map (some mb)] W fun e w'=>∃ v,e=.returned v∧w'.ownsRow W.heap.size 9 1 v L.length (psE.fl L)∧Below W.heap.size W w'):=fun W hb=>names_any mb k f L hL hk hsz W (h.to (hb.block mb h.lt))
  have HMP:Hid (MapIs w mb k f):=h
  have HF:Hid (∀ m b,f m=some b → ∀ W',Below w.heap.size w W' → Calls Tryz.prog F #[ptr (some b)] W' fun e w'=>e=.returned (.string (val m))∧Below W'.heap.size W' w'):=hF
  have HLM:Hid (∀ j (hj:j < L.length),∃ b,f L[j]=some b):=fun j hj=>Option.isSome_iff_exists.1 ((hL.mem _).1 (List.getElem_mem hj))
  have HEF:Hid _:=eF
  have HLS:Hid (∀ m ∈ L,m.size ≤ 281474976710656):=hsz
  clear h hF hL hsz
  go_enter Tryz.func34,Tryz.ntmps34
  go_upto_region 2 with (first
    | (at_make; refine wpList_make_own _ rfl _ _ 37 rfl w.heap.size 41 i0 (.agg #[.string ⟨#[]⟩,.string ⟨#[]⟩]) 2 Tryz.underlying37 hi hz0 hz1 _ _ _ k rfl rfl rfl (by rw [hz2]; show 32 * _ ≤ _; omega) (by unfold maxLen; omega) (Nat.le_refl _) ?_; intro w1 hrow1 hg1)
    | go_in)
  have hb1:Below w.heap.size w w1:=(Below.refl _ _).grown hg1 (Nat.le_refl _) (fun j hj=>by cases hj)
  have HR1:Hid (w1.ownsRow w.heap.size 41 2 (.slice (some ⟨w.heap.size,0,none⟩) 0 k) 0 []):=hrow1
  have HB1:Hid (Below w.heap.size w w1):=hb1
  clear hrow1 hg1 hb1 hlen
  go_wp2_with fail
  refine (show Calls _ _ _ _ _ from HNA.out w1 HB1.out).mono ?_
  rintro e w2 ⟨v,rfl,ho2,hb2⟩
  obtain ⟨P,c,rfl⟩:=own_form ho2
  have HN2:Hid (w2.ownsRow w1.heap.size 9 1 (.slice P L.length c) L.length (psE.fl L)):=ho2
  have HR2:Hid (w2.ownsRow w.heap.size 41 2 (.slice (some ⟨w.heap.size,0,none⟩) 0 k) 0 []):=own_bel HR1.out hb2
  have HB2:Hid (Below w.heap.size w w2):=bel_to HB1.out hb2 (Nat.le_refl _)
  clear ho2 hb2
  go_wp2
  go_loopw [14,5] (fun ci cv wr=>∃ i:Nat,i ≤ L.length∧ci=.int .i64 (i:Int)∧Below w.heap.size w wr∧wr.ownsRow w1.heap.size 9 1 (.slice P L.length c) L.length (psE.fl L)∧wr.ownsRow w.heap.size 41 2 cv i (pprE.fl ((L.take i).map fun m=>(m,val m)))) (fun ci _ _=>L.length - (intOf ci).toNat)
  case atStart=>exact ⟨0,by omega,rfl,HB2.out,HN2.out,HR2.out⟩
  case round =>
    obtain ⟨i,hi',rfl,hb,hnr,hrow⟩:=hrel
    obtain ⟨Pv,cv',hcv⟩:=own_form hrow
    subst hcv
    have HBW:Hid (Below w.heap.size w wr):=hb
    have HNR:Hid (wr.ownsRow w1.heap.size 9 1 (.slice P L.length c) L.length (psE.fl L)):=hnr
    have HRW:Hid (wr.ownsRow w.heap.size 41 2 (.slice Pv i cv') i (pprE.fl ((L.take i).map fun m=>(m,val m)))):=hrow
    clear hb hrow hnr
    by_cases hlt:i < L.length
    · obtain ⟨g,o,c',he,hc⟩:=(KR.own (E:=psE) HNR.out rfl).cell psOk hlt
      injection he with he1 _ he2
      subst he1
      have c0:wr.cell? ⟨g,o + i * 1,none⟩=some (.string L[i]):=hc 0 _ rfl
      rw [Nat.mul_one] at c0
      have hz0:(0:Int) ≤ (i:Int):=by omega
      have hz1:(i:Int) < (L.length:Int):=by omega
      have hiw:IntKind.i64.wrap ((i:Int) + 1)=(i:Int) + 1:=by rw [IntKind.wrap_i64] <;> omega
      obtain ⟨b,hfb⟩:=HLM.out i hlt
      have hXs:=HLS.out L[i] (List.getElem_mem hlt)
      have HTK:Hid ((L.take (i + 1)).map (fun m=>(m,val m))=(L.take i).map (fun m=>(m,val m)) ++ [(L[i],val L[i])]):=by
        show _=_
        rw [List.take_add_one,List.getElem?_eq_getElem hlt,List.map_append]; rfl
      obtain ⟨X,hX⟩:∃ X,L[i]=X:=⟨_,rfl⟩
      rw [hX] at c0 hfb HTK hXs
      have hlk:=(HMP.out.to (HBW.out.block mb HMP.out.lt)).look (m:=X) (by unfold maxLen; omega)
      rw [hfb] at hlk
      have HCL:Hid _:=HF.out X b hfb wr HBW.out
      have HLI:Hid (((L.take i).map (fun m=>(m,val m))).length=i):=by show _=_; simp; omega
      have heF:=HEF.out
      clear hc he2 hX hfb
      unfold ptr at hlk HCL
      go_wp2_with fail
      refine (show Calls _ _ _ _ _ from HCL.out).mono ?_
      rintro e w3 ⟨rfl,hb3⟩
      have HB3:Hid (Below w.heap.size w w3):=bel_to HBW.out hb3 (Nat.le_refl _)
      have HN3:Hid (w3.ownsRow w1.heap.size 9 1 (.slice (some ⟨g,o,none⟩) L.length c) L.length (psE.fl L)):=own_bel HNR.out hb3
      have HR3:Hid (w3.ownsRow w.heap.size 41 2 (.slice Pv i cv') i (pprE.fl ((L.take i).map fun m=>(m,val m)))):=own_bel HRW.out hb3
      have HWS:Hid (w.heap.size ≤ w3.heap.size):=by have:=HBW.out.size; have:=hb3.size; show _ ≤ _; omega
      clear hb3 c0 hlk heF
      go_wp2_with (first
        | (at_builtin; refine wpList_one pprOk #[.string X,.string (val X)] (X,val X) rfl rfl _ _ rfl w.heap.size _ ((L.take i).map fun m=>(m,val m)) i HLI.out.symm rfl HR3.out rfl (by rw [HLI.out]; unfold maxLen; omega) (by rw [HLI.out]; show _ * 32 ≤ _; omega) HWS.out ?_; intro v4 w4 ho4 hg4; obtain ⟨P4,k4,hf4⟩:=own_form ho4; subst hf4)
        | go_in)
      go_roundw
      case rel =>
        refine ⟨i + 1,hlt,rfl,?_,?_,?_⟩
        · exact (HB3.out.alloc HB3.out.size _).grown hg4 (by have:=HB3.out.size; simp; omega) (fun j hj=>(HR3.out.lt j hj).1)
        · refine own_to HN3.out (fun q hq=>?_)
          have hq3:=own_lt HN3.out hq
          exact (hg4.block q (by simp; omega) (own_apart HN3.out HR3.out (by decide) hq)).trans (heap_alloc_old _ _ hq3)
        · rw [HTK.out]; exact ho4
      case measure=>simp [intOf]; omega
    · have he:i=L.length:=by omega
      subst he
      go_wp2
      go_ret
      refine ⟨_,rfl,?_,HBW.out⟩
      have:=HRW.out
      rw [List.take_length] at this
      exact this
end Go.Proofs.YtbgbmfmgdgalbaaGreatDoor
namespace Go.Proofs.YtbgbmfmgdgalbaaGreatDoor
open Go.RowKit Go.Maps
set_option linter.unusedVariables false
set_option linter.unusedSimpArgs false
structure DOk (d:List Sl) (n:Nat):Prop where
  rise:d.Pairwise fun a b=>ltB a.1 b.1=true
  nam:∀ x ∈ d,namedM x.1=true
  ge:∀ x ∈ d,0 ≤ x.2
  lt:∀ x ∈ d,x.2 < (n:Int)
  uni:d.Pairwise fun a b=>a.2 ≠ b.2
  few:d.length ≤ 64
def dirF (d:List Sl) (fb:Nat → Nat):ByteArray → Option Nat:=fun n=>if findM d n < 0 then none else some (fb (findM d n).toNat)
theorem findM_mem {d:List Sl} {n:ByteArray} (h:¬ findM d n < 0):∃ x ∈ d,x.1=n∧x.2=findM d n:=by
  unfold findM at h ⊢
  rcases hf:d.find? (fun x=>decide (x.1=n)) with _ | x
  · rw [hf] at h; simp at h
  · exact ⟨x,List.mem_of_find?_eq_some hf,by simpa using List.find?_some hf,by rw [hf]; rfl⟩
theorem findM_in {d:List Sl} (hr:d.Pairwise fun a b=>ltB a.1 b.1=true) {x:Sl} (hx:x ∈ d):findM d x.1=x.2:=by
  induction d with
  | nil=>cases hx
  | cons y d ih =>
    rw [List.pairwise_cons] at hr
    rcases List.mem_cons.1 hx with rfl | hx
    · simp [findM]
    · have hne:y.1 ≠ x.1:=fun e=>by have:=hr.1 x hx; rw [e,ltB_irr] at this; cases this
      have:=ih hr.2 hx
      unfold findM at *
      rw [List.find?_cons,decide_eq_false hne]
      exact this
theorem findM_none {d:List Sl} {n:ByteArray} (h:∀ x ∈ d,x.1 ≠ n):findM d n=-1:=by
  unfold findM
  have:d.find? (fun x=>decide (x.1=n))=none:=by
    rw [List.find?_eq_none]; intro x hx; simpa using h x hx
  rw [this]; rfl
theorem names_of {d:List Sl} {n:Nat} (h:DOk d n) (fb:Nat → Nat):NamesOf (dirF d fb) (d.map (·.1)):=by
  refine ⟨by rw [List.pairwise_map]; exact h.rise,fun m=>?_⟩
  unfold dirF
  rw [List.mem_map]
  constructor
  · rintro ⟨x,hx,rfl⟩
    have:=findM_in h.rise hx
    have:=h.ge x hx
    rw [if_neg (by omega)]; rfl
  · intro hs
    by_cases hf:findM d m < 0
    · rw [if_pos hf] at hs; cases hs
    · obtain ⟨x,hx,e,_⟩:=findM_mem hf
      exact ⟨x,hx,e⟩
theorem named_size {n:ByteArray} (h:namedM n=true):0 < n.size∧n.size ≤ 64:=by
  unfold namedM at h
  simp only [Bool.and_eq_true,decide_eq_true_eq] at h
  exact ⟨h.1.1.1.1,h.1.1.1.2⟩
theorem MapIs.size_names {W:World} {mb k:Nat} {f:ByteArray → Option Nat} {L:List ByteArray} (h:MapIs W mb k f) (hL:NamesOf f L):k=L.length:=by
  obtain ⟨D,hD,hm⟩:=h
  obtain ⟨es,hDe,hpw,_⟩:=hD.entries lawK
  obtain ⟨es',hDe',hko⟩:=hD.keysOf
  obtain rfl:es=es':=by rw [hDe] at hDe'; simpa using hDe'
  subst hDe
  have hnd:(L.map fun s=>s.data.toList).Nodup:=by
    rw [List.Nodup,List.pairwise_map]
    refine hL.rise.imp (fun {a b} hab e=>?_)
    have:a=b:=ByteArray.ext (Array.toList_inj.1 e)
    subst this
    rw [ltB_irr] at hab; cases hab
  have hp:=perm_strKeys hpw (fun p hp=>by obtain ⟨v,hv⟩:=hko p hp; obtain ⟨x,_,hx,_⟩:=Maps.keyOf_str Tryz.underlying9 hv; exact ⟨x,hx⟩) hnd (fun x=>by
    have h1:=hm.has ⟨x.toArray⟩
    have h2:(⟨x.toArray⟩:ByteArray).data.toList=x:=by simp
    rw [h2] at h1
    rw [h1,← hL.mem,List.mem_map]
    constructor
    · rintro ⟨s,hs,rfl⟩; exact hs
    · intro hx; exact ⟨_,hx,by simp⟩)
  have:=hp.length_eq
  rw [← hm.siz,size_eq]
  simpa [strKeys] using this.symm
structure Pc where
  n:ByteArray
  t:ByteArray
  b:Nat
def pcOf (c:Ch) (b:Nat):Pc:=if c.t.size=0 then (if c.f < 0 then ⟨c.n,⟨#[]⟩,b⟩ else ⟨⟨#[]⟩,c.n,b⟩) else ⟨c.n,c.t,b⟩
def pgE:ET Pc:=⟨fun x=>[.string x.n,.string x.t,ptr (some x.b)],3,40,100,71,.agg #[.string ⟨#[]⟩,.string ⟨#[]⟩,.pointer none]⟩
theorem pgOk:ETok pgE:=⟨Tryz.underlying71,by kernel_rfl,rfl,by decide,fun _=>rfl,fun x u hu=>by simp [pgE] at hu; rcases hu with rfl | rfl | rfl <;> rfl⟩
structure Pq where
  s:Nat
  c:Bool
  b:Nat
def meetV (q:Pq):Value:=.func (.func (if q.c then 45 else 39)) #[] #[.pointer (some ⟨q.b,0,none⟩)]
def plnE:ET Pq:=⟨fun q=>[.int .i64 (q.s:Int),.bool q.c,meetV q],3,24,91,72,.agg #[.int .i64 0,.bool false,.nilFunc]⟩
theorem plnOk:ETok plnE:=⟨Tryz.underlying72,by kernel_rfl,rfl,by decide,fun _=>rfl,fun x u hu=>by simp [plnE] at hu; rcases hu with rfl | rfl | rfl <;> rfl⟩
def pinE:ET Int:=⟨fun x=>[.int .i64 x],1,8,3,44,.int .i64 0⟩
theorem pinOk:ETok pinE:=⟨Tryz.underlying44,by kernel_rfl,rfl,by decide,fun _=>rfl,fun x u hu=>by simp [pinE] at hu; rcases hu with rfl; rfl⟩
def PRow (W:World) (v:Value) (l:List Pq):Prop:=(v=.slice none 0 0∧l=[]) ∨ ∃ g o c cur,v=.slice (some ⟨g,o * 3,none⟩) l.length c∧W.heap[g]?=some (.cells cur 91 (0,0))∧(o + c) * 3 ≤ cur.size∧l.length ≤ c∧o + c ≤ 9223372036854775807∧∀ j u,(plnE.fl l)[j]?=some u → cur[o * 3 + j]?=some u
structure Holds (W:World) (F:Fs) (q:Pq):Prop where
  cr:q.c=true → F.crash=(q.s:Int)∧∃ v,W.heap[q.b]?=some (.cells #[v] 44)∧W.ownsRow 0 3 1 v F.picks.length (pinE.fl F.picks)
  fl:q.c=false → ∃ p:Int,W.heap[q.b]?=some (.cells #[.int .i64 p] 3)∧failM F.fails q.s=some p
def ltQ (a b:Pq):Prop:=a.s < b.s ∨ (a.s=b.s∧a.c=true∧b.c=false)
structure Plans (F:Fs) (qs:List Pq):Prop where
  srt:qs.Pairwise ltQ
  ahead:∀ q ∈ qs,F.steps < q.s
  all:∀ n p,F.steps < n → failM F.fails n=some p → ∃ q ∈ qs,q.c=false∧q.s=n
  cr:∀ n:Nat,F.steps < n → F.crash=(n:Int) → ∃ q ∈ qs,q.c=true∧q.s=n
structure Gh where
  mn:Nat
  ms:Nat
  fb:Nat → Nat
  pv:Nat → Value
  ps:Nat → List ByteArray
  cv:Value
  cf:List Nat
  qv:Value
  qs:List Pq
def Live (F:Fs) (X:Gh) (i:Nat):Prop:=(∃ x ∈ F.dir,x.2=(i:Int)) ∨ (∃ x ∈ F.sure,x.2=(i:Int)) ∨ i ∈ X.cf
def chgL (F:Fs) (X:Gh):List Pc:=(F.chg.zip X.cf).map fun x=>pcOf x.1 (X.fb x.2)
def dirK (F:Fs) (k:Nat):List Sl:=(F.chg.take k).foldl afterM F.sure
structure FOk (F:Fs) (cf:List Nat):Prop where
  dirs:∀ k,k ≤ F.chg.length → DOk (dirK F k) F.files.length
  now:dirK F F.chg.length=F.dir
  cl:cf.length=F.chg.length
  cfl:∀ i ∈ cf,i < F.files.length
  ch:∀ x ∈ F.chg.zip cf,(x.1.f < 0 ∨ x.1.f=(x.2:Int))∧namedM x.1.n=true∧(x.1.t.size=0 ∨ namedM x.1.t=true)∧(x.1.t.size ≠ 0 → x.1.f=(x.2:Int))
theorem FOk.dir {F:Fs} {cf:List Nat} (h:FOk F cf):DOk F.dir F.files.length:=by have:=h.dirs _ (Nat.le_refl _); rw [h.now] at this; exact this
theorem FOk.sure {F:Fs} {cf:List Nat} (h:FOk F cf):DOk F.sure F.files.length:=h.dirs 0 (Nat.zero_le _)
def Own (g:Nat) (F:Fs) (X:Gh) (k:Nat):Prop:=k=g ∨ k=X.mn ∨ k=X.ms ∨ (∃ i,Live F X i∧(k=X.fb i ∨ (X.pv i).ownBlock=some k)) ∨ X.cv.ownBlock=some k ∨ X.qv.ownBlock=some k
structure FsC (W:World) (g:Nat) (X:Gh) (F:Fs):Prop where
  ok:FOk F X.cf
  blk:W.heap[g]?=some (.cells #[.bool F.down,.int .i64 (F.steps:Int),.int .i64 (F.files.length:Int),.map (some X.mn),.map (some X.ms),X.cv,X.qv] 74)
  now:∃ k,MapIs W X.mn k (dirF F.dir X.fb)
  safe:∃ k,MapIs W X.ms k (dirF F.sure X.fb)
  mne:X.mn ≠ X.ms
  chg:W.ownsRow 0 100 3 X.cv F.chg.length (pgE.fl (chgL F X))
  row:PRow W X.qv X.qs
  fil:∀ i x,Live F X i → F.files[i]?=some x → FileAt W (X.fb i) i x (X.pv i) (X.ps i)
  inj:∀ i j,Live F X i → Live F X j → i ≠ j → X.fb i ≠ X.fb j∧∀ k,(X.pv i).ownBlock=some k → (X.pv j).ownBlock ≠ some k
structure FsP (W:World) (g:Nat) (X:Gh) (F:Fs):Prop extends FsC W g X F where
  pln:Plans F X.qs
  hld:∀ q ∈ X.qs,Holds W F q
theorem FsC.now_k {W:World} {g:Nat} {X:Gh} {F:Fs} (h:FsC W g X F):MapIs W X.mn F.dir.length (dirF F.dir X.fb):=by
  obtain ⟨k,hk⟩:=h.now
  have:=hk.size_names (names_of h.ok.dir X.fb)
  rw [List.length_map] at this
  subst this; exact hk
theorem FsC.safe_k {W:World} {g:Nat} {X:Gh} {F:Fs} (h:FsC W g X F):MapIs W X.ms F.sure.length (dirF F.sure X.fb):=by
  obtain ⟨k,hk⟩:=h.safe
  have:=hk.size_names (names_of h.ok.sure X.fb)
  rw [List.length_map] at this
  subst this; exact hk
theorem FsC.live_lt {W:World} {g:Nat} {X:Gh} {F:Fs} (h:FsC W g X F) {i:Nat} (hi:Live F X i):i < F.files.length:=by
  rcases hi with ⟨x,hx,e⟩ | ⟨x,hx,e⟩ | hi
  · have:=h.ok.dir.lt x hx; omega
  · have:=h.ok.sure.lt x hx; omega
  · exact h.ok.cfl i hi
theorem PRow.type {W:World} {v:Value} {l:List Pq} (h:PRow W v l) {k:Nat} (hk:v.ownBlock=some k):∃ cur,W.heap[k]?=some (.cells cur 91 (0,0)):=by
  rcases h with ⟨rfl,_⟩ | ⟨g,o,c,cur,rfl,hc,_⟩
  · cases hk
  · cases hk; exact ⟨cur,hc⟩
theorem PRow.to {W W':World} {v:Value} {l:List Pq} (h:PRow W v l) (hk:∀ k,v.ownBlock=some k → W'.heap[k]?=W.heap[k]?):PRow W' v l:=by
  rcases h with h | ⟨g,o,c,cur,hv,hc,r⟩
  · exact Or.inl h
  · exact Or.inr ⟨g,o,c,cur,hv,(hk g (by rw [hv]; rfl)).trans hc,r⟩
def tyOwn (t:Nat):Prop:=t=74 ∨ t=85 ∨ t=9 ∨ t=100 ∨ t=91
theorem FsC.own_ty {W:World} {g:Nat} {X:Gh} {F:Fs} (h:FsC W g X F) {k:Nat} (hk:Own g F X k) {cs:Array Value} {t:Nat} {fz:Nat × Nat} (hb:W.heap[k]?=some (.cells cs t fz)):tyOwn t:=by
  have key:∀ {cs':Array Value} {t':Nat} {fz':Nat × Nat},W.heap[k]?=some (.cells cs' t' fz') → t=t':=fun h'=>by
    have:=hb.symm.trans h'
    injection this with this
    injection this
  rcases hk with rfl | rfl | rfl | ⟨i,hl,rfl | hp⟩ | hc | hq
  · exact Or.inl (key h.blk)
  · obtain ⟨k,hm⟩:=h.now; obtain ⟨es,c,h1⟩:=hm.obj; rw [h1] at hb; cases hb
  · obtain ⟨k,hm⟩:=h.safe; obtain ⟨es,c,h1⟩:=hm.obj; rw [h1] at hb; cases hb
  · have hlt:=h.live_lt hl
    exact Or.inr (Or.inl (key (h.fil i _ hl (List.getElem?_eq_getElem hlt)).blk))
  · have hlt:=h.live_lt hl
    obtain ⟨cur,hc⟩:=own_type (h.fil i _ hl (List.getElem?_eq_getElem hlt)).own hp
    exact Or.inr (Or.inr (Or.inl (key hc)))
  · obtain ⟨cur,hc⟩:=own_type h.chg hc
    exact Or.inr (Or.inr (Or.inr (Or.inl (key hc))))
  · obtain ⟨cur,hc⟩:=h.row.type hq
    exact Or.inr (Or.inr (Or.inr (Or.inr (key hc))))
theorem FsC.own_lt {W:World} {g:Nat} {X:Gh} {F:Fs} (h:FsC W g X F) {k:Nat} (hk:Own g F X k):k < W.heap.size:=by
  rcases hk with rfl | rfl | rfl | ⟨i,hl,rfl | hp⟩ | hc | hq
  · exact row_lt h.blk
  · exact h.now_k.lt
  · exact h.safe_k.lt
  · exact row_lt (h.fil i _ hl (List.getElem?_eq_getElem (h.live_lt hl))).blk
  · obtain ⟨cur,hc⟩:=own_type (h.fil i _ hl (List.getElem?_eq_getElem (h.live_lt hl))).own hp; exact row_lt hc
  · obtain ⟨cur,hc⟩:=own_type h.chg hc; exact row_lt hc
  · obtain ⟨cur,hc⟩:=h.row.type hq; exact row_lt hc
theorem Holds.to {W W':World} {F:Fs} {q:Pq} (h:Holds W F q) (hk:∀ (k:Nat) (cs:Array Value) (t:Nat) (fz:Nat × Nat),W.heap[k]?=some (.cells cs t fz) → ¬ tyOwn t → W'.heap[k]?=W.heap[k]?):Holds W' F q:=by
  refine ⟨fun hc=>?_,fun hc=>?_⟩
  · obtain ⟨h1,v,h2,h4⟩:=h.cr hc
    refine ⟨h1,v,(hk _ _ _ _ h2 (by unfold tyOwn; decide)).trans h2,own_to h4 (fun k hk'=>?_)⟩
    obtain ⟨cur,hc⟩:=own_type h4 hk'
    exact hk _ _ _ _ hc (by unfold tyOwn; decide)
  · obtain ⟨p,h1,h2⟩:=h.fl hc
    exact ⟨p,(hk _ _ _ _ h1 (by unfold tyOwn; decide)).trans h1,h2⟩
theorem FsP.mod {W W':World} {S:Nat → Prop} {g:Nat} {X:Gh} {F:Fs} (h:FsP W g X F) (hm:ModP S W W') (hS:∀ k,S k → ¬ Own g F X k) (hH:∀ (k:Nat) (cs:Array Value) (t:Nat) (fz:Nat × Nat),S k → W.heap[k]?=some (.cells cs t fz) → tyOwn t):FsP W' g X F:=by
  have e:∀ k,Own g F X k → W'.heap[k]?=W.heap[k]?:=fun k hk=>hm.oth k (h.own_lt hk) (fun hs=>hS k hs hk)
  obtain ⟨k1,hn⟩:=h.now
  obtain ⟨k2,hs⟩:=h.safe
  refine ⟨⟨h.ok,(e g (Or.inl rfl)).trans h.blk,⟨k1,hn.to (e _ (Or.inr (Or.inl rfl)))⟩,⟨k2,hs.to (e _ (Or.inr (Or.inr (Or.inl rfl))))⟩,h.mne,own_to h.chg (fun k hk=>e k (Or.inr (Or.inr (Or.inr (Or.inr (Or.inl hk)))))),h.row.to (fun k hk=>e k (Or.inr (Or.inr (Or.inr (Or.inr (Or.inr hk)))))),fun i x hl hx=>(h.fil i x hl hx).to (e _ (Or.inr (Or.inr (Or.inr (Or.inl ⟨i,hl,Or.inl rfl⟩))))) (fun k hk=>e k (Or.inr (Or.inr (Or.inr (Or.inl ⟨i,hl,Or.inr hk⟩))))),h.inj⟩,h.pln,fun q hq=>(h.hld q hq).to (fun k cs t fz hk ht=>hm.oth k (row_lt hk) (fun hs=>ht (hH k cs t fz hs hk)))⟩
theorem FsC.mod {W W':World} {S:Nat → Prop} {g:Nat} {X:Gh} {F:Fs} (h:FsC W g X F) (hm:ModP S W W') (hS:∀ k,S k → ¬ Own g F X k):FsC W' g X F:=by
  have e:∀ k,Own g F X k → W'.heap[k]?=W.heap[k]?:=fun k hk=>hm.oth k (h.own_lt hk) (fun hs=>hS k hs hk)
  obtain ⟨k1,hn⟩:=h.now
  obtain ⟨k2,hs⟩:=h.safe
  exact ⟨h.ok,(e g (Or.inl rfl)).trans h.blk,⟨k1,hn.to (e _ (Or.inr (Or.inl rfl)))⟩,⟨k2,hs.to (e _ (Or.inr (Or.inr (Or.inl rfl))))⟩,h.mne,own_to h.chg (fun k hk=>e k (Or.inr (Or.inr (Or.inr (Or.inr (Or.inl hk)))))),h.row.to (fun k hk=>e k (Or.inr (Or.inr (Or.inr (Or.inr (Or.inr hk)))))),fun i x hl hx=>(h.fil i x hl hx).to (e _ (Or.inr (Or.inr (Or.inr (Or.inl ⟨i,hl,Or.inl rfl⟩))))) (fun k hk=>e k (Or.inr (Or.inr (Or.inr (Or.inl ⟨i,hl,Or.inr hk⟩))))),h.inj⟩
theorem FsC.on {W W':World} {g:Nat} {X:Gh} {F:Fs} (h:FsC W g X F) (hb:Below W.heap.size W W'):FsC W' g X F:=h.mod (ModP.below (S:=fun _=>False) hb) (fun _ q=>q.elim)
theorem FsP.on {W W':World} {g:Nat} {X:Gh} {F:Fs} (h:FsP W g X F) (hb:Below W.heap.size W W'):FsP W' g X F:=h.mod (ModP.below (S:=fun _=>False) hb) (fun _ q=>q.elim) (fun _ _ _ _ q=>q.elim)
structure Sm (F:Fs) (X:Gh):Prop where
  st:F.steps ≤ 3298534883328
  fi:F.files.length ≤ 3298534883328
  ch:F.chg.length ≤ 3298534883328
  qs:X.qs.length ≤ 3298534883328
structure Fresh (b:Nat) (W:World) (q:Pq):Prop where
  bl:b ≤ q.b
  cr:q.c=true → ∃ v,W.heap[q.b]?=some (.cells #[v] 44)∧∀ k,v.ownBlock=some k → b ≤ k
theorem Fresh.le {b b':Nat} {W:World} {q:Pq} (h:Fresh b W q) (hb:b' ≤ b):Fresh b' W q:=⟨Nat.le_trans hb h.bl,fun hc=>by
  obtain ⟨v,h1,h2⟩:=h.cr hc
  exact ⟨v,h1,fun k hk=>Nat.le_trans hb (h2 k hk)⟩⟩
theorem Fresh.mod {b g:Nat} {W W':World} {X:Gh} {F:Fs} {q:Pq} (h:Fresh b W q) (hf:FsC W g X F) (hm:ModP (Own g F X) W W'):Fresh b W' q:=⟨h.bl,fun hc=>by
  obtain ⟨v,h1,h2⟩:=h.cr hc
  exact ⟨v,(hm.oth q.b (row_lt h1) (fun ho=>absurd (hf.own_ty ho h1) (by unfold tyOwn; decide))).trans h1,h2⟩⟩
structure Bec (w:World) (g:Nat) (X:Gh) (F:Fs) (w':World) (X':Gh) (F':Fs):Prop where
  is:FsP w' g X' F'
  md:ModP (Own g F X) w w'
  own:∀ k,Own g F' X' k → Own g F X k ∨ w.heap.size ≤ k
  len:X'.qs.length ≤ X.qs.length + 1
  nq:∀ q ∈ X'.qs,q ∈ X.qs ∨ Fresh w.heap.size w' q
theorem FsC.cells {W:World} {g:Nat} {X:Gh} {F:Fs} (h:FsC W g X F):W.cell? ⟨g,0,none⟩=some (.bool F.down)∧W.cell? ⟨g,1,none⟩=some (.int .i64 (F.steps:Int))∧W.cell? ⟨g,2,none⟩=some (.int .i64 (F.files.length:Int))∧W.cell? ⟨g,3,none⟩=some (.map (some X.mn))∧W.cell? ⟨g,4,none⟩=some (.map (some X.ms))∧W.cell? ⟨g,5,none⟩=some X.cv∧W.cell? ⟨g,6,none⟩=some X.qv∧∀ j,W.frozen? ⟨g,j,none⟩=false:=by
  refine ⟨?_,?_,?_,?_,?_,?_,?_,fun j=>frozen_of_row _ _ _ _ _ h.blk⟩ <;> (rw [cell_of_row _ _ _ _ _ _ h.blk]; rfl)
end Go.Proofs.YtbgbmfmgdgalbaaGreatDoor
