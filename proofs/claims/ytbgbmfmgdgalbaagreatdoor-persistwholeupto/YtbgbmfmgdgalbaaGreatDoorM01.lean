import Derived.Test.YtbgbmfmgdgalbaaGreatDoorM00
import Derived.Laws.OwnMore
import Derived.Maps.OwnSet
import Derived.Maps.RangeWalk
import Derived.Maps.Ext
import Derived.StringKeys
import Derived.Deep.RegionHeld3
import Derived.Deep.Cut
import Derived.Deep.RegionWith
import Derived.Deep.MidRow
import Derived.Deep.RegionLaw
import Derived.Test.YtbgbmfmgdgalbaaGreatDoorShB
import Derived.Test.YtbgbmfmgdgalbaaGreatDoorShelf
import Derived.Maps.AppendAt
namespace Go.Proofs.YtbgbmfmgdgalbaaGreatDoor
open Go.RowKit Go.Maps
set_option linter.unusedVariables false
def ptr (o:Option Nat):Value:=.pointer (o.map fun b=>⟨b,0,none⟩)
def ptrElem (v:Value):Option (DataW Unit × List MemPlace):=match v with
  | .pointer (some ⟨b,0,none⟩)=>some (.lit (.int .i64 (b:Int)),[])
  | .pointer none=>some (.lit (.int .i64 (-1)),[])
  | _=>none
theorem ptrElem_some (b:Nat):ptrElem (ptr (some b))=some (.lit (.int .i64 (b:Int)),[]):=rfl
theorem ptrElem_inv {v:Value} {z:DataW Unit × List MemPlace} (h:ptrElem v=some z):∃ o:Option Nat,v=ptr o∧z=(.lit (.int .i64 (match o with | some b=>(b:Int) | none=>-1)),[]):=by
  unfold ptrElem at h
  split at h
  · rename_i b
    cases h; exact ⟨some b,rfl,rfl⟩
  · cases h; exact ⟨none,rfl,rfl⟩
  · cases h
theorem lawK:Keyed Tryz.prog 9:=string_keyed Tryz.underlying9
theorem zeroP (w:World):(zeroValue 83).run Tryz.prog w=.ok (.pointer none) w:=by kernel_rfl
theorem lit_inj {a b:Int} (h:(DataW.lit (Lit.int .i64 a):DataW Unit)=.lit (.int .i64 b)):a=b:=by
  injection h with h
  injection h
theorem owns_tight {W:World} {mb n:Nat} {D:DataW Unit} (h:W.ownsMap Tryz.prog 9 ptrElem mb n D):W.ownsMap Tryz.prog 9 ptrElem mb (Maps.size D) D:=by
  obtain ⟨es,clock,hb,F,hs,rfl⟩:=h
  refine ⟨es,clock,hb,F,?_,rfl⟩
  rw [size_eq,length_read]
  exact Nat.le_refl _
structure DIs (D:DataW Unit) (k:Nat) (f:ByteArray → Option Nat):Prop where
  siz:Maps.size D=k
  has:∀ m:ByteArray,Maps.has D (.string m.data.toList)=(f m).isSome
  at_:∀ (m:ByteArray) b,f m=some b → ∀ z,D.atKey (.string m.data.toList) z=.lit (.int .i64 (b:Int))
def MapIs (W:World) (mb k:Nat) (f:ByteArray → Option Nat):Prop:=∃ D:DataW Unit,W.ownsMap Tryz.prog 9 ptrElem mb k D∧DIs D k f
theorem MapIs.to {W W':World} {mb n:Nat} {f:ByteArray → Option Nat} (h:MapIs W mb n f) (e:W'.heap[mb]?=W.heap[mb]?):MapIs W' mb n f:=by
  obtain ⟨D,⟨es,clock,hb,hF⟩,hm⟩:=h
  exact ⟨D,⟨es,clock,e.trans hb,hF⟩,hm⟩
theorem MapIs.obj {W:World} {mb n:Nat} {f:ByteArray → Option Nat} (h:MapIs W mb n f):∃ es c,W.heap[mb]?=some (.map es c):=by
  obtain ⟨D,⟨es,clock,h1,hF⟩,hm⟩:=h
  exact ⟨_,_,h1⟩
theorem MapIs.ne {W:World} {mb n g t:Nat} {L:Array Value} {f:ByteArray → Option Nat} (h:MapIs W mb n f) (hb:W.heap[g]?=some (.cells L t)):mb ≠ g:=fun e=>by
  subst e
  obtain ⟨es,c,h1⟩:=h.obj
  have:=h1.symm.trans hb
  cases this
theorem MapIs.lt {W:World} {mb n:Nat} {f:ByteArray → Option Nat} (h:MapIs W mb n f):mb < W.heap.size:=by
  obtain ⟨D,h1,hm⟩:=h
  exact h1.lt
theorem MapIs.look {W:World} {mb n:Nat} {f:ByteArray → Option Nat} (h:MapIs W mb n f) {m:ByteArray} (hs:m.size ≤ maxLen):(Instr.lookup 70 (.map (some mb)) (.string m) false).run Tryz.prog W=.ok (ptr (f m)) W:=by
  obtain ⟨D,hD,hm⟩:=h
  have h1:=hm.has m
  have h2:=hm.at_ m
  obtain ⟨v,ps,hrun,hv⟩:=hD.lookup lawK Tryz.underlying70 (zeroP W) (zd:=.lit (.int .i64 (-1))) (zp:=[]) rfl (WideMaps.keyOf_string_mk Tryz.underlying9 hs)
  obtain ⟨o,rfl,ho⟩:=ptrElem_inv hv
  rw [hrun]
  have e:o=f m:=by
    have ho1:=congrArg Prod.fst ho
    simp only at ho1
    rcases hf:f m with _ | b
    · rw [hf] at h1
      rw [atKey_of_not_has h1] at ho1
      rcases o with _ | b
      · rfl
      · have:(-1:Int)=(b:Int):=lit_inj ho1
        omega
    · rw [h2 b hf] at ho1
      rcases o with _ | b'
      · have:(b:Int)=-1:=lit_inj ho1
        omega
      · have h3:(b:Int)=(b':Int):=lit_inj ho1
        have:b=b':=by omega
        rw [this]
  rw [e]
def updM (f:ByteArray → Option Nat) (m:ByteArray) (o:Option Nat):ByteArray → Option Nat:=fun x=>if x=m then o else f x
theorem key_ne {m x:ByteArray} (h:x ≠ m):Lit.string x.data.toList ≠ Lit.string m.data.toList:=fun e=>by
  injection e with e
  exact h (ByteArray.ext (Array.toList_inj.1 e))
theorem turned_only {w w':World} {b:Nat} (h:w.mapTurned w' b):Only w w' b:=by
  obtain ⟨es,clock,es',clock',hb,rfl⟩:=h
  refine ⟨rfl,rfl,rfl,by simp [ChangeMaps.setBlock],fun k hk=>ChangeMaps.heap_setBlock_other hb _ (fun e=>hk e)⟩
theorem MapIs.put {W:World} {mb n:Nat} {f:ByteArray → Option Nat} (h:MapIs W mb n f) (hn:n < maxLen) {m:ByteArray} (hs:m.size ≤ maxLen) (b:Nat):∃ w',(Instr.mapUpdate 70 (.map (some mb)) (.string m) (ptr (some b))).run Tryz.prog W=.ok () w'∧MapIs w' mb (if (f m).isSome then n else n + 1) (updM f m (some b))∧Only W w' mb:=by
  obtain ⟨D,hD,hm⟩:=h
  obtain ⟨w',hrun,ho,ht⟩:=hD.store lawK Tryz.underlying70 hn (WideMaps.keyOf_string_mk Tryz.underlying9 hs) (ptrElem_some b)
  have hK:WideAt.IsKeyLit (.string m.data.toList):=trivial
  have hsz:=size_put (hD.tidy lawK) (k:=.string m.data.toList) (.lit (.int .i64 (b:Int)))
  rw [hm.has,hm.siz] at hsz
  refine ⟨w',hrun,⟨_,hsz ▸ owns_tight ho,hsz,fun x=>?_,fun x b' hb' z=>?_⟩,turned_only ht⟩
  · unfold updM
    by_cases hx:x=m
    · subst hx
      rw [if_pos rfl]
      exact has_put_same hD.isMap hK _
    · rw [if_neg hx]
      exact (has_put_other (key_ne hx) _).trans (hm.has x)
  · unfold updM at hb'
    by_cases hx:x=m
    · subst hx
      rw [if_pos rfl] at hb'
      cases hb'
      exact atKey_put_same hD.isMap hK _ _
    · rw [if_neg hx] at hb'
      exact (atKey_put_other (key_ne hx) _ _).trans (hm.at_ x b' hb' z)
theorem MapIs.del {W:World} {mb n:Nat} {f:ByteArray → Option Nat} (h:MapIs W mb n f) {m:ByteArray} (hs:m.size ≤ maxLen) (ty:TypeId):∃ w',(Builtin.delete_ #[70,9] ty #[.map (some mb),.string m]).run Tryz.prog W=.ok (.tuple #[]) w'∧MapIs w' mb (if (f m).isSome then n - 1 else n) (updM f m none)∧Only W w' mb:=by
  obtain ⟨D,hD,hm⟩:=h
  obtain ⟨w',hrun,ho,ht⟩:=hD.drop lawK Tryz.underlying70 (WideMaps.keyOf_string_mk Tryz.underlying9 hs) ty
  have hsz:=size_del (hD.tidy lawK) (k:=.string m.data.toList)
  rw [hm.has,hm.siz] at hsz
  have hsz':Maps.size (D.del (.string m.data.toList))=if (f m).isSome then n - 1 else n:=by split at hsz <;> split <;> simp_all <;> omega
  refine ⟨w',hrun,⟨_,hsz' ▸ owns_tight ho,hsz',fun x=>?_,fun x b' hb' z=>?_⟩,turned_only ht⟩
  · unfold updM
    by_cases hx:x=m
    · subst hx
      rw [if_pos rfl]
      exact has_del_same
    · rw [if_neg hx]
      exact (has_del_other (key_ne hx)).trans (hm.has x)
  · unfold updM at hb'
    by_cases hx:x=m
    · subst hx
      rw [if_pos rfl] at hb'
      cases hb'
    · rw [if_neg hx] at hb'
      exact (atKey_del_other (key_ne hx) _).trans (hm.at_ x b' hb' z)
theorem MapIs.made (w:World):MapIs (w.alloc (.map #[] 0)) w.heap.size 0 (fun _=>none):=
  ⟨_,World.ownsMap_made _ _ _ _,rfl,fun m=>rfl,fun m b hb=>by cases hb⟩
theorem MapIs.len {W:World} {mb n:Nat} {f:ByteArray → Option Nat} (h:MapIs W mb n f) (ty:TypeId):(Builtin.len_ #[70] ty #[.map (some mb)]).run Tryz.prog W=.ok (.int .i64 (n:Int)) W:=by
  obtain ⟨D,hD,hm⟩:=h
  rw [← hm.siz]
  exact hD.len Tryz.underlying70 ty
end Go.Proofs.YtbgbmfmgdgalbaaGreatDoor
namespace Go.Proofs.YtbgbmfmgdgalbaaGreatDoor
open Go.RowKit Go.Maps
set_option linter.unusedVariables false
set_option linter.unusedSimpArgs false
structure ModP (S:Nat → Prop) (w w':World):Prop where
  os:w'.os=w.os
  tape:w'.tape=w.tape
  output:w'.output=w.output
  size:w.heap.size ≤ w'.heap.size
  oth:∀ k,k < w.heap.size → ¬ S k → w'.heap[k]?=w.heap[k]?
theorem ModP.refl (S:Nat → Prop) (w:World):ModP S w w:=⟨rfl,rfl,rfl,Nat.le_refl _,fun _ _ _=>rfl⟩
theorem ModP.trans {S:Nat → Prop} {a b c:World} (h:ModP S a b) (k:ModP S b c):ModP S a c:=⟨k.os.trans h.os,k.tape.trans h.tape,k.output.trans h.output,Nat.le_trans h.size k.size,fun j hj hn=>(k.oth j (Nat.lt_of_lt_of_le hj h.size) hn).trans (h.oth j hj hn)⟩
theorem ModP.weak {S S':Nat → Prop} {a b:World} (h:ModP S a b) (hs:∀ k,k < a.heap.size → S k → S' k):ModP S' a b:=⟨h.os,h.tape,h.output,h.size,fun j hj hn=>h.oth j hj (fun q=>hn (hs j hj q))⟩
theorem ModP.andThen {S S':Nat → Prop} {a b c:World} (h:ModP S a b) (k:ModP S' b c) (hs:∀ j,j < a.heap.size → S' j → S j):ModP S a c:=⟨k.os.trans h.os,k.tape.trans h.tape,k.output.trans h.output,Nat.le_trans h.size k.size,fun j hj hn=>(k.oth j (Nat.lt_of_lt_of_le hj h.size) (fun q=>hn (hs j hj q))).trans (h.oth j hj hn)⟩
theorem ModP.below {S:Nat → Prop} {w w':World} (h:Below w.heap.size w w'):ModP S w w':=⟨h.os,h.tape,h.output,h.size,fun k hk _=>h.block k hk⟩
theorem ModP.only {S:Nat → Prop} {b:Nat} {w w':World} (h:Only w w' b) (hb:S b):ModP S w w':=⟨h.os,h.tape,h.output,by rw [h.size]; exact Nat.le_refl _,fun k _ hn=>h.other k (fun e=>hn (e ▸ hb))⟩
theorem ModP.grown {S:Nat → Prop} {w w':World} {r:Option Nat} (h:w.grownBy w' r) (hr:∀ b,r=some b → S b):ModP S w w':=⟨h.os,h.tape,h.output,h.size,fun k hk hn=>h.block k hk (fun e=>hn (hr k e.symm))⟩
theorem ModP.row {S:Nat → Prop} {w w':World} {k:Nat} {o:Obj} (h:ModP S w w') (hk:w.heap[k]?=some o) (hn:¬ S k):w'.heap[k]?=some o:=(h.oth k (row_lt hk) hn).trans hk
theorem ModP.dn {S:Nat → Prop} {w w':World} (h:ModP S w w') (n:Nat):ModP S w (w'.drewN n):=h.trans ⟨rfl,rfl,rfl,Nat.le_refl _,fun _ _ _=>rfl⟩
theorem ModP.bel {S:Nat → Prop} {w w':World} {B:Nat} (h:ModP S w w') (hS:∀ k,k < B → ¬ S k) (hB:B ≤ w.heap.size):Below B w w':=⟨h.os,h.tape,h.output,h.size,fun k hk=>h.oth k (by omega) (hS k hk)⟩
def apF (f:ByteArray → Option Nat) (n t:ByteArray) (b:Nat):ByteArray → Option Nat:=if t.size=0 then updM f n none else updM (updM f n none) t (some b)
set_option maxHeartbeats 2000000 in
theorem apply_any (mb k:Nat) (f:ByteArray → Option Nat) (n t:ByteArray) (b:Nat) (hn:n.size ≤ 140737488355328) (ht:t.size ≤ 140737488355328) (hk:k ≤ 1099511627776) (w:World) (h:MapIs w mb k f) :
    Calls Tryz.prog 85 #[.map (some mb),.agg #[.string n,.string t,ptr (some b)]] w fun e w'=>e=.returned (.tuple #[])∧ModP (fun j=>j=mb) w w'∧∃ k',k' ≤ k + 1∧MapIs w' mb k' (apF f n t b):=by
  obtain ⟨W0,hW0⟩:∃ W0,W0=w.alloc (.cells #[.string n,.string t,ptr (some b)] 100):=⟨_,rfl⟩
  have hb0:Below w.heap.size w W0:=by rw [hW0]; exact (Below.refl _ _).alloc (Nat.le_refl _) _
  have h0:MapIs W0 mb k f:=h.to (hb0.block mb h.lt)
  have hrow:W0.heap[w.heap.size]?=some (.cells #[.string n,.string t,ptr (some b)] 100):=by rw [hW0]; exact one_alloc _ _
  obtain ⟨W1,hr1,h1,ho1⟩:=h0.del (m:=n) (by unfold maxLen; omega) 0
  have hrow1:W1.heap[w.heap.size]?=some (.cells #[.string n,.string t,ptr (some b)] 100):=(ho1.other _ (fun e=>Nat.ne_of_lt h.lt e.symm)).trans hrow
  have hm1:ModP (fun j=>j=mb) w W1:=(ModP.below hb0).trans (ModP.only ho1 rfl)
  have hdel:∀ ty,(Builtin.delete_ #[70,9] ty #[.map (some mb),.string n]).run Tryz.prog W0=.ok (.tuple #[]) W1:=fun ty=>hr1
  have c00:W0.cell? ⟨w.heap.size,0,none⟩=some (.string n):=by rw [cell_of_row _ _ _ _ _ _ hrow]; rfl
  have c11:W1.cell? ⟨w.heap.size,1,none⟩=some (.string t):=by rw [cell_of_row _ _ _ _ _ _ hrow1]; rfl
  have c12:W1.cell? ⟨w.heap.size,2,none⟩=some (ptr (some b)):=by rw [cell_of_row _ _ _ _ _ _ hrow1]; rfl
  obtain ⟨R,hR⟩:∃ R,w.heap.size=R:=⟨_,rfl⟩
  rw [hR] at c00 c11 c12
  have HM1:Hid (ModP (fun j=>j=mb) w W1):=hm1
  by_cases ht0:t.size=0
  · have e0:t.toList.isEmpty=true:=str_empty ht0
    have HF:Hid (MapIs W1 mb (if (f n).isSome then k - 1 else k) (apF f n t b)):=by
      show MapIs _ _ _ _
      unfold apF; rw [if_pos ht0]; exact h1
    have HK:Hid ((if (f n).isSome then k - 1 else k) ≤ k + 1):=by show _ ≤ _; split <;> omega
    clear hr1 h1 h0 hb0 hrow hrow1 ho1 hm1 ht0 h c12
    go_enter Tryz.func85,Tryz.ntmps85
    go_upto_region 1 with fail
    rw [← hW0]
    clear hW0
    go_wp2
    go_end0
    exact ⟨rfl,HM1.out,_,HK.out,HF.out⟩
  · have e0:t.toList.isEmpty=false:=str_full ht0
    obtain ⟨W2,hr2,h2,ho2⟩:=h1.put (m:=t) (by unfold maxLen; split <;> omega) (by unfold maxLen; omega) b
    have HM2:Hid (ModP (fun j=>j=mb) w W2):=hm1.trans (ModP.only ho2 rfl)
    have HF:Hid (∃ k',k' ≤ k + 1∧MapIs W2 mb k' (apF f n t b)):=by
      show ∃ k',_
      have hap:apF f n t b=updM (updM f n none) t (some b):=if_neg ht0
      rw [hap]
      exact ⟨_,by split <;> split <;> omega,h2⟩
    clear hr1 h1 h0 hb0 hrow hrow1 ho1 hm1 ht0 h h2 ho2
    go_enter Tryz.func85,Tryz.ntmps85
    go_upto_region 1 with fail
    rw [← hW0]
    clear hW0
    go_wp2
    go_end0
    exact ⟨rfl,HM2.out,HF.out⟩
end Go.Proofs.YtbgbmfmgdgalbaaGreatDoor
namespace Go.Proofs.YtbgbmfmgdgalbaaGreatDoor
open Go.RowKit
set_option linter.unusedVariables false
set_option linter.unusedSimpArgs false
def psE:ET ByteArray:=⟨fun x=>[.string x],1,16,9,22,.string ⟨#[]⟩⟩
theorem psOk:ETok psE:=⟨Tryz.underlying22,by kernel_rfl,rfl,by decide,fun _=>rfl,fun x u hu=>by simp [psE] at hu; rcases hu with rfl; rfl⟩
theorem clone_any (s:ByteArray) (hs:s.size ≤ 281474976710656) (w:World):Calls Tryz.prog 117 #[.string s] w fun e w'=>e=.returned (.string s)∧Below w.heap.size w w':=by
  have HC:Hid _:=Tryz.stringslite_Clone s w hs
  go_enter Tryz.func117,Tryz.ntmps117
  go_wp2_with fail
  refine (show Calls _ _ _ _ _ from HC.out).mono ?_
  rintro e w1 ⟨rfl,hb⟩
  go_wp2
  go_ret
  exact ⟨rfl,hb⟩
def joinB (ps:List ByteArray):List UInt8:=ps.flatMap fun p=>p.data.toList
theorem joinB_app (a b:List ByteArray):joinB (a ++ b)=joinB a ++ joinB b:=by unfold joinB; rw [List.flatMap_append]
theorem joinB_one (p:ByteArray):joinB [p]=p.data.toList:=by simp [joinB]
theorem take_piece (ps:List ByteArray) (k n:Nat) (h:k < ps.length):(joinB (ps.take (k + 1))).take n=(joinB (ps.take k)).take n ++ (ps[k].extract 0 (min ps[k].size (n - ((joinB (ps.take k)).take n).length))).data.toList:=by
  rw [List.take_add_one,List.getElem?_eq_getElem h]
  show (joinB (ps.take k ++ [ps[k]])).take n=_
  rw [joinB_app,joinB_one,List.take_append,ext_any,List.drop_zero,Nat.sub_zero]
  congr 1
  rw [List.length_take]
  rcases Nat.le_total n (joinB (ps.take k)).length with h1 | h1
  · rw [Nat.min_eq_left h1,Nat.sub_eq_zero_of_le h1,Nat.sub_self,Nat.min_zero]
  · rw [Nat.min_eq_right h1]
    have:ps[k].size=ps[k].data.toList.length:=(list_len _).symm
    rcases Nat.le_total ps[k].size (n - (joinB (ps.take k)).length) with h2 | h2
    · rw [Nat.min_eq_left h2,List.take_of_length_le (by omega),List.take_of_length_le (by omega)]
    · rw [Nat.min_eq_right h2]
theorem mk_to {B b:Nat} {W:Int} {l:List UInt8} {w:World} (h:P.MakerAt B b W l w):Lib.BuilderAt 131 5 B b (.pointer (some ⟨b,0,none⟩)) (Lib.byteCells l) w:=by
  obtain ⟨hB,v,h1,h2,h3⟩:=h
  refine ⟨hB,v,h1,?_,h3⟩
  have:(Lib.byteCells l).length=l.length:=by simp [Lib.byteCells]
  rw [this]; exact h2
set_option maxHeartbeats 4000000 in
theorem first_any (b:Nat) (C:Array Value) (ps:List ByteArray) (n:Nat) (pv:Value) (hC:C[1]?=some pv) (w:World) (hbk:w.heap[b]?=some (.cells C 85)) (hown:w.ownsRow 0 9 1 pv ps.length (psE.fl ps)) (hl:ps.length ≤ 4294967296) (hs:(joinB ps).length ≤ 4294967296) (hn:n ≤ 4294967296) :
    Calls Tryz.prog 36 #[ptr (some b),.int .i64 (n:Int)] w fun e w'=>e=.returned (.string (strB ((joinB ps).take n)))∧Below w.heap.size w w':=by
  obtain ⟨R,hR⟩:∃ R,R=w.heap.size:=⟨_,rfl⟩
  obtain ⟨W0,hW0⟩:∃ W0,W0=w.alloc (.cells #[.pointer none,.slice none 0 0] 131):=⟨_,rfl⟩
  have hb0:Below R w W0:=by rw [hW0]; exact (Below.refl _ _).alloc (by omega) _
  have hrow:W0.heap[R]?=some (.cells #[.pointer none,.slice none 0 0] 131 (0,0)):=by rw [hW0,hR]; exact one_alloc _ _
  have hsz:R ≤ W0.heap.size:=by rw [hW0,hR]; simp
  have hG:=Tryz.Builder_Grow_fresh R R n W0 (Nat.le_refl _) hrow hsz (by omega)
  obtain ⟨Q,c,rfl⟩:=own_form hown
  have HK:Hid (KR psE w (.slice Q ps.length c) ps):=KR.own hown rfl
  have HB:Hid (w.heap[b]?=some (.cells C 85)):=hbk
  have HC1:Hid (C[1]?=some (.slice Q ps.length c)):=hC
  have HS:Hid ((joinB ps).length ≤ 4294967296):=hs
  have HB0:Hid (Below R w W0):=hb0
  have HR:Hid (R=w.heap.size):=hR
  clear hown hbk hC hrow hsz hs hb0
  go_enter Tryz.func36,Tryz.ntmps36
  go_upto_region 2 with fail
  rw [← hW0,← hR]
  clear hW0 hR
  go_wp2_with fail
  refine hG.mono ?_
  rintro e w1 ⟨rfl,hba,hb1⟩
  have HB1:Hid (Below R w w1):=HB0.out.trans hb1
  have c1:w1.cell? ⟨b,1,none⟩=some (.slice Q ps.length c):=by
    rw [cell_of_row _ _ _ _ _ _ ((HB1.out.block b (by rw [HR.out]; exact row_lt HB.out)).trans HB.out)]; exact HC1.out
  have HM:Hid (P.MakerAt R R 0 [] w1):=hba
  clear hba hb1 hG
  unfold ptr
  go_wp2
  go_loopw [15] (fun ci wr=>∃ i:Nat,i ≤ ps.length∧ci=.int .i64 (i:Int)∧Below R w wr∧P.MakerAt R R 0 ((joinB (ps.take i)).take n) wr) (fun ci _=>ps.length - (intOf ci).toNat)
  case atStart=>exact ⟨0,by omega,rfl,HB1.out,by simpa [joinB] using HM.out⟩
  case round =>
    obtain ⟨i,hi,rfl,hb,hm⟩:=hrel
    have HBR:Hid (Below R w wr):=hb
    have HMR:Hid (P.MakerAt R R 0 ((joinB (ps.take i)).take n) wr):=hm
    have HRS:Hid (R ≤ wr.heap.size):=by have:=hb.size; rw [← HR.out] at this; exact this
    clear hb hm c1
    by_cases hlt:i < ps.length
    · obtain ⟨g,o,c',he,hc⟩:=(HK.out.on (HR.out ▸ HBR.out)).cell psOk hlt
      injection he with he1 _ he2
      subst he1
      have c0:wr.cell? ⟨g,o + i * 1,none⟩=some (.string ps[i]):=hc 0 _ rfl
      rw [Nat.mul_one] at c0
      have hz0:(0:Int) ≤ (i:Int):=by omega
      have hz1:(i:Int) < (ps.length:Int):=by omega
      have hiw:IntKind.i64.wrap ((i:Int) + 1)=(i:Int) + 1:=by rw [IntKind.wrap_i64] <;> omega
      have HTP:Hid _:=take_piece ps i n hlt
      clear hc he2
      obtain ⟨l,hlL⟩:∃ l,(joinB (ps.take i)).take n=l:=⟨_,rfl⟩
      have hln:l.length ≤ n:=by rw [← hlL,List.length_take]; omega
      rw [hlL] at HMR HTP
      have HLEN:Hid _:=Tryz.Builder_Len R R (Lib.byteCells l) wr (Or.inr (mk_to HMR.out))
      have hbl:(Lib.byteCells l).length=l.length:=by simp [Lib.byteCells]
      rw [hbl] at HLEN
      obtain ⟨X,hX⟩:∃ X,ps[i]=X:=⟨_,rfl⟩
      rw [hX] at c0 HTP
      obtain ⟨ln,hlnn⟩:∃ ln,l.length=ln:=⟨_,rfl⟩
      rw [hlnn] at HLEN HTP hln
      have HXS:Hid (X.size ≤ 4294967296):=by
        show X.size ≤ _
        have h1:=HS.out
        rw [← List.take_append_drop i ps,joinB_app,List.drop_eq_getElem_cons hlt,hX] at h1
        show X.size ≤ _
        have h2:joinB (X :: ps.drop (i + 1))=X.data.toList ++ joinB (ps.drop (i + 1)):=by simp [joinB]
        rw [h2] at h1
        simp only [List.length_append,list_len] at h1
        omega
      have hxs:=HXS.out
      have hw1:IntKind.i64.wrap ((n:Int) - (ln:Int))=((n - ln:Nat):Int):=by rw [IntKind.wrap_i64] <;> omega
      have hmn:min (X.size:Int) ((n - ln:Nat):Int)=((min X.size (n - ln):Nat):Int):=by omega
      obtain ⟨q,hq⟩:∃ q,min X.size (n - ln)=q:=⟨_,rfl⟩
      rw [hq] at hmn HTP
      have hqX:q ≤ X.size:=by omega
      have HWS:Hid _:=P.writeString_any R R 0 l (X.extract 0 q) wr HMR.out (by rw [hlnn,ext_size _ _ _ hqX]; omega) HRS.out
      have HHL:Hid (l.length=ln):=hlnn
      have HHQ:Hid (min X.size (n - ln)=q):=hq
      clear hX hlL hbl hlnn hq
      go_wp2_with fail
      refine (show Calls _ _ _ _ _ from HLEN.out).mono ?_
      rintro e w2 ⟨rfl,rfl⟩
      go_wp2_with fail
      refine (show Calls _ _ _ _ _ from HWS.out).mono ?_
      rintro e w3 ⟨rfl,hm3,hb3⟩
      have HB3:Hid (Below R w w3):=HBR.out.trans hb3
      have HM3:Hid (P.MakerAt R R 0 ((joinB (ps.take (i + 1))).take n) w3):=by
        show P.MakerAt _ _ _ _ _
        rw [HTP.out]; exact hm3
      clear hm3 hb3 c0
      go_wp2
      go_roundw
      case rel=>exact ⟨i + 1,hlt,rfl,HB3.out,HM3.out⟩
      case measure=>simp [intOf]; omega
    · have he:i=ps.length:=by omega
      have HST:Hid _:=Tryz.Builder_String_any R R ((joinB ps).take n) wr (Or.inr (mk_to (by have:=HMR.out; rw [he,List.take_length] at this; exact this))) HRS.out
      subst he
      go_wp2_with fail
      refine (show Calls _ _ _ _ _ from HST.out).mono ?_
      rintro e w3 ⟨rfl,hb3⟩
      have HB3:Hid (Below R w w3):=HBR.out.trans hb3
      clear hb3
      go_wp2
      go_ret
      exact ⟨rfl,HR.out ▸ HB3.out⟩
end Go.Proofs.YtbgbmfmgdgalbaaGreatDoor
namespace Go.Proofs.YtbgbmfmgdgalbaaGreatDoor
open Go.RowKit
set_option linter.unusedVariables false
set_option linter.unusedSimpArgs false
section
variable {α:Type} {E:ET α}
theorem step_appG (ok:ETok E) {w:World} {ops:Array Oper} {o:Oper} {a:Act} {K:Act → World → Prop} {Q:Exit → Act → World → Prop} {E0:Prop} (cs:Array Value) (x1:α) (hcs:cs.toList=E.enc x1) (hg:o.guard=none) (s x:Operand)
    (hop:o.op=Op.call { callee:=Callee.builtin Builtin.append,args:=#[s,x],argTypes:=#[E.ST,E.ST] })
    (v:Value) (xs:List α) (hs:a.eval s=v) (hown:w.ownsRow 0 E.T E.k v xs.length (E.fl xs)) (B:Nat) (hx:a.eval x=.slice (some ⟨B,0,none⟩) 1 1) (hB:w.heap[B]?=some (.cells cs E.T)) (hl:xs.length + 1 ≤ maxLen) (hby:(xs.length + 1) * E.by_ ≤ 140737488355328)
    (h:∀ v' w',w'.ownsRow 0 E.T E.k v' (xs.length + 1) (E.fl (xs ++ [x1])) → w.grownBy w' v.ownBlock → (v'.ownBlock=v.ownBlock ∨ v'.ownBlock=some w.heap.size) → K (a.put o.dst v') w') :
    if Region.wanted o (yielded ops a.tmps)=true then Oper.wp Tryz.prog o a w K Q else E0:=by
  have hw:Region.wanted o (yielded ops a.tmps)=true:=by simp [Region.wanted,hg]
  rw [if_pos hw]
  obtain ⟨i0,hi,hz0,hz1,hz2⟩:=info_of ok.inf
  have hfl:E.fl [x1]=cs.toList:=by simp [ET.fl,hcs]
  obtain ⟨v',w',hrun,h2,h3,h4,h5⟩:=run_append_own_at (P:=Tryz.prog) w 0 E.ST o.type E.T i0 E.z E.k E.by_ ok.und hi hz0 hz1 hz2 ok.zc ok.kp v xs.length (E.fl xs) hown ⟨B,0,none⟩ 1 1 (E.fl [x1]) (ET.fl_len ok [x1]) (fun j u hu=>by
    rw [Lib.add_plain,Nat.zero_add,cell_of_row _ _ _ _ _ _ hB]; rw [hfl] at hu; simpa using hu) (ET.fl_one ok [x1]) hl hby (Nat.zero_le _)
  unfold Oper.wp
  simp [execOp,hop,resolve,invoke,builtin,hs,hx,hrun,Result.andThen]
  exact h v' w' (by rw [ET.fl_app]; exact h2) h3 h5
end
theorem own_alloc {w:World} {base e size n:Nat} {v:Value} {xs:List Value} (h:w.ownsRow base e size v n xs) (o:Obj):(w.alloc o).ownsRow base e size v n xs:=own_keep h (fun k _ hk=>heap_alloc_old _ _ hk)
theorem own_bel {w w':World} {base e size n:Nat} {v:Value} {xs:List Value} (h:w.ownsRow base e size v n xs) (hb:Below w.heap.size w w'):w'.ownsRow base e size v n xs:=own_keep h (fun k _ hk=>hb.block k hk)
theorem own_type {w:World} {base e size n:Nat} {v:Value} {xs:List Value} (h:w.ownsRow base e size v n xs) {k:Nat} (hk:v.ownBlock=some k):∃ cur,w.heap[k]?=some (.cells cur e (0,0)):=by
  rcases h.2 with ⟨rfl,_⟩ | ⟨g,cap,cur,rfl,_,hg,_⟩
  · cases hk
  · cases hk; exact ⟨cur,hg⟩
theorem own_to {w w':World} {base e size n:Nat} {v:Value} {xs:List Value} (h:w.ownsRow base e size v n xs) (hk:∀ k,v.ownBlock=some k → w'.heap[k]?=w.heap[k]?):w'.ownsRow base e size v n xs:=by
  refine ⟨h.1,?_⟩
  rcases h.2 with h1 | ⟨g,cap,cur,hv,hb,hg,r⟩
  · exact Or.inl h1
  · exact Or.inr ⟨g,cap,cur,hv,hb,by rw [hk g (by rw [hv]; rfl)]; exact hg,r⟩
theorem own_lt {w:World} {base e size n:Nat} {v:Value} {xs:List Value} (h:w.ownsRow base e size v n xs) {k:Nat} (hk:v.ownBlock=some k):k < w.heap.size:=by
  obtain ⟨cur,hc⟩:=own_type h hk; exact row_lt hc
structure FileAt (W:World) (b i:Nat) (x:Fi) (pv:Value) (ps:List ByteArray):Prop where
  blk:W.heap[b]?=some (.cells #[.int .i64 ((i + 1:Nat):Int),pv,.int .i64 (x.d.size:Int),.int .i64 (x.s:Int)] 85)
  own:W.ownsRow 0 9 1 pv ps.length (psE.fl ps)
  jn:joinB ps=x.d.data.toList
  few:ps.length ≤ x.d.size + 1
  big:x.d.size ≤ 1073741824
  sf:x.s ≤ x.d.size
theorem FileAt.ne {W:World} {b i:Nat} {x:Fi} {pv:Value} {ps:List ByteArray} (h:FileAt W b i x pv ps) {k:Nat} (hk:pv.ownBlock=some k):k ≠ b:=fun e=>by
  subst e
  obtain ⟨cur,hc⟩:=own_type h.own hk
  have:=hc.symm.trans h.blk
  injection this with this
  injection this with _ h2
  exact absurd h2 (by decide)
theorem FileAt.to {W W':World} {b i:Nat} {x:Fi} {pv:Value} {ps:List ByteArray} (h:FileAt W b i x pv ps) (hb:W'.heap[b]?=W.heap[b]?) (hk:∀ k,pv.ownBlock=some k → W'.heap[k]?=W.heap[k]?):FileAt W' b i x pv ps:=⟨hb.trans h.blk,own_to h.own hk,h.jn,h.few,h.big,h.sf⟩
theorem FileAt.first {W:World} {b i:Nat} {x:Fi} {pv:Value} {ps:List ByteArray} (h:FileAt W b i x pv ps) (n:Nat) (hn:n ≤ x.d.size):Calls Tryz.prog 36 #[ptr (some b),.int .i64 (n:Int)] W fun e w'=>e=.returned (.string (x.d.extract 0 n))∧Below W.heap.size W w':=by
  have h1:=h.big
  have h2:=h.few
  have:=first_any b _ ps n pv (by rfl) W h.blk h.own (by omega) (by rw [h.jn,list_len]; omega) (by omega)
  have e:strB ((joinB ps).take n)=x.d.extract 0 n:=by
    refine ByteArray.ext (Array.toList_inj.1 ?_)
    rw [strB_list,ext_any,h.jn,List.drop_zero,Nat.sub_zero]
  rw [e] at this
  exact this
set_option maxHeartbeats 1000000 in
theorem sync_any (b:Nat) (c0 pv:Value) (sz sf:Int) (w:World) (h:w.heap[b]?=some (.cells #[c0,pv,.int .i64 sz,.int .i64 sf] 85)):Calls Tryz.prog 129 #[ptr (some b)] w fun e w'=>e=.returned (.tuple #[])∧w'.heap[b]?=some (.cells #[c0,pv,.int .i64 sz,.int .i64 sz] 85)∧Only w w' b:=by
  have c2:w.cell? ⟨b,2,none⟩=some (.int .i64 sz):=by rw [cell_of_row _ _ _ _ _ _ h]; rfl
  have c3:w.cell? ⟨b,3,none⟩=some (.int .i64 sf):=by rw [cell_of_row _ _ _ _ _ _ h]; rfl
  have f3:w.frozen? ⟨b,3,none⟩=false:=frozen_of_row _ _ _ _ _ h
  have HS:Hid ((w.setCell ⟨b,3,none⟩ (.int .i64 sz)).heap[b]?=some (.cells #[c0,pv,.int .i64 sz,.int .i64 sz] 85)):=by
    have:=heap_setCell_same w b 3 _ _ (.int .i64 sz) h
    exact this
  clear h
  unfold ptr
  go_enter Tryz.func129,Tryz.ntmps129
  go_wp2
  go_end0
  exact ⟨rfl,HS.out,(Only.refl _ _).set _ _⟩
end Go.Proofs.YtbgbmfmgdgalbaaGreatDoor
