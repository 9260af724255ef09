import Derived.Test.YtbgbmfmgdgalbaaGreatDoorM00
import Derived.Lib.Builder
import Derived.Lib.MakeNoZero
import Derived.Lib.UnsafeStr
import Derived.Laws.Externs
import Derived.Laws.IdiomCopy
import Derived.Laws.OwnMore
import Derived.Maps.OwnSet
import Derived.Maps.RangeWalk
import Derived.Maps.Ext
import Derived.StringKeys
import Derived.Deep.RegionHeld3
import Derived.Deep.Cut
import Derived.Deep.RegionWith
import Derived.Deep.MidRow
import Derived.Deep.RegionLaw
namespace Go.Proofs.YtbgbmfmgdgalbaaGreatDoor.P
open Go.RowKit
set_option linter.unusedVariables false
def bcells (l:List UInt8):List Value:=l.map fun b=>Value.int .u8 (b.toNat:Int)
theorem bcells_str (l:List UInt8) (s:ByteArray):bcells (l ++ s.data.toList)=bcells l ++ Lib.strCells s:=by unfold bcells Lib.strCells; rw [List.map_append]
theorem info5:(Tryz.prog.info? 5).map (fun i=>(i.zero,i.size,i.bytes))=some (some (.int .u8 0),1,1):=by kernel_rfl
def mcells (b:Nat) (v:Value) (W:Int):Array Value:=#[.pointer (some ⟨b,0,none⟩),v]
def MakerAt (B b:Nat) (W:Int) (l:List UInt8) (w:World):Prop:=
  B ≤ b∧∃ v,w.heap[b]?=some (.cells (mcells b v W) 131 (0,0))∧w.ownsRow B 5 1 v l.length (bcells l)∧v.ownBlock ≠ some b
theorem sizeB:(Tryz.prog.info? 131).map (·.size)=some 2:=by kernel_rfl
theorem cell_heap {w:World} {b:Nat} {cs:Array Value} {T:TypeId} {fr:Nat × Nat} (hb:w.heap[b]?=some (.cells cs T fr)) (j:Nat):w.cell? ⟨b,j,none⟩=cs[j]?:=by
  simp [World.cell?,hb]
set_option maxHeartbeats 1000000 in
set_option maxRecDepth 100000 in
theorem copyCheck_used (b:Nat) (w:World) (h0:w.cell? ⟨b,0,none⟩=some (.pointer (some ⟨b,0,none⟩))) :
    Calls Tryz.prog 119 #[.pointer (some ⟨b,0,none⟩)] w fun e w'=>e=.returned (.tuple #[])∧w'=w:=by
  obtain ⟨j,hj,_⟩:=Option.map_eq_some_iff.1 sizeB
  go_enter Tryz.func119,Tryz.ntmps119
  go_wp2
  rw [Lib.run_neq_ptr_same w _ Tryz.underlying128 hj]
  go_wp2
  go_end0
  exact ⟨rfl,rfl⟩
theorem maker_put {B b:Nat} {W:Int} {v v':Value} {l:List UInt8} {w:World} (hB:B ≤ b) (hb:w.heap[b]?=some (.cells (mcells b v W) 131 (0,0))) (hown:w.ownsRow B 5 1 v' l.length (bcells l)) :
    MakerAt B b W l (w.setCell ⟨b,1,none⟩ v'):=by
  have hne:v'.ownBlock ≠ some b:=by
    intro e
    rcases hown.2 with ⟨h,_⟩ | ⟨g,cap,cur,h,_,hg,_⟩
    · subst h; simp [Value.ownBlock] at e
    · subst h
      simp [Value.ownBlock] at e
      subst e
      rw [hb] at hg
      injection hg with hg
      injection hg with _ h2
      exact absurd h2 (by decide)
  refine ⟨hB,v',?_,?_,hne⟩
  · simp [World.setCell,Array.getElem?_modify,hb,mcells]
  · refine hown.kept (row:=some b) ⟨rfl,rfl,rfl,by simp [World.setCell],fun k _ hk=>Below.heap_setCell _ _ _ _ (fun e=>hk (by simp [e]))⟩ ?_
    exact Or.inr hne
set_option maxHeartbeats 2000000 in
set_option maxRecDepth 100000 in
theorem writeString_any (B b:Nat) (W:Int) (l:List UInt8) (s:ByteArray) (w:World) (h:MakerAt B b W l w) (hlen:l.length + s.size ≤ 140737488355328) (hBw:B ≤ w.heap.size) :
    Calls Tryz.prog 76 #[.pointer (some ⟨b,0,none⟩),.string s] w fun e w'=>e=.returned (.tuple #[.int .i64 s.size,.nilIface])∧(MakerAt B b W (l ++ s.data.toList) w'∧Below B w w'):=by
  obtain ⟨i0,hi,hz0,hz1,hz2⟩:=info_parts info5
  obtain ⟨hB,v,hbk,hown,hne⟩:=h
  have c0:w.cell? ⟨b,0,none⟩=some (.pointer (some ⟨b,0,none⟩)):=by rw [cell_heap hbk]; rfl
  have c1:w.cell? ⟨b,1,none⟩=some v:=by rw [cell_heap hbk]; rfl
  go_enter Tryz.func76,Tryz.ntmps76
  go_wp2_with fail
  refine (copyCheck_used b w c0).mono ?_
  rintro e w1 ⟨rfl,hw1⟩
  subst w1
  go_wp2_with (at_builtin; go_must (refine Lib.wpList_append_own_string _ rfl _ _ 129 9 rfl B 5 i0 Tryz.underlying129 Tryz.underlying9 hi hz0 hz1 hz2 _ _ _ rfl hown s rfl ?c3 ?c4 ?c5 ?_))
  case c3=>unfold maxLen; omega
  case c4=>omega
  case c5=>omega
  intro v' w2 hown' hgrow _
  have hb2:w2.heap[b]?=some (.cells (mcells b v W) 131 (0,0)):=by
    rw [hgrow.block b (row_lt hbk) (fun e=>hne e.symm)]
    exact hbk
  have d0:w2.cell? ⟨b,0,none⟩=some (.pointer (some ⟨b,0,none⟩)):=by rw [cell_heap hb2]; rfl
  have d1:w2.cell? ⟨b,1,none⟩=some v:=by rw [cell_heap hb2]; rfl
  have f1:w2.frozen? ⟨b,1,none⟩=false:=Lib.frozen_of_heap hb2 1
  obtain ⟨ao,n',cap,rfl⟩:∃ ao n' cap,v'=.slice ao n' cap:=by
    obtain ⟨p,c,e⟩:=own_form hown'
    exact ⟨_,_,_,e⟩
  have HO2:Hid (w2.ownsRow B 5 1 (.slice ao n' cap) (l ++ s.data.toList).length (bcells (l ++ s.data.toList))):=by
    rw [bcells_str,List.length_append,list_len]; exact hown'
  clear hown'
  go_wp2
  go_ret2
  refine ⟨rfl,maker_put hB hb2 HO2.out,?_⟩
  exact ((Below.refl B w).grown hgrow hBw (fun k hk=>(hown.lt k hk).1)).setCell (p:=⟨b,1,none⟩) hB _
end Go.Proofs.YtbgbmfmgdgalbaaGreatDoor.P
namespace Go.Proofs.YtbgbmfmgdgalbaaGreatDoor
open Go.RowKit
set_option linter.unusedVariables false
set_option linter.unusedSimpArgs false
theorem plit1:(⟨#[46]⟩:ByteArray).toList=[46]:=by rw [ByteArray.toList_eq]
theorem plit2:(⟨#[46,46]⟩:ByteArray).toList=[46,46]:=by rw [ByteArray.toList_eq]
set_option maxHeartbeats 4000000 in
theorem isSign_any (b:UInt8) (w:World):Calls Tryz.prog 165 #[.int .u8 (b.toNat:Int)] w fun e w'=>e=.returned (.bool (okC b.toNat))∧w'=w:=by
  obtain ⟨c,hc⟩:∃ c,b.toNat=c:=⟨_,rfl⟩
  rw [hc]
  clear hc
  go_enter Tryz.func165,Tryz.ntmps165
  go_wp2
  all_goals
    go_ret
    refine ⟨?_,rfl⟩
    refine congrArg (fun x=>Ending.returned (.bool x)) ?_
    rw [Bool.eq_iff_iff]
    simp only [okC,Bool.or_eq_true,Bool.and_eq_true,decide_eq_true_eq,beq_iff_eq]
    first
    | omega
    | (simp; omega)
theorem isSign_is (b:UInt8) (x:Bool) (h:okC b.toNat=x) (w:World):Calls Tryz.prog 165 #[.int .u8 (b.toNat:Int)] w fun e w'=>e=.returned (.bool x)∧w'=w:=by
  subst h; exact isSign_any b w
set_option maxHeartbeats 4000000 in
theorem isName_any (s:ByteArray) (hs:s.size ≤ 140737488355328) (w:World):Calls Tryz.prog 149 #[.string s] w fun e w'=>e=.returned (.bool (namedM s))∧w'=w:=by
  by_cases h0:s.size=0
  · have e0:(s.size:Int)=0:=by omega
    have HN:Hid (namedM s=false):=by show _=_; simp [namedM,h0]
    clear h0
    go_enter Tryz.func149,Tryz.ntmps149
    go_wp2
    go_ret
    exact ⟨by rw [HN.out]; rfl,rfl⟩
  have e0:((s.size:Int) == 0)=false:=by simp; intro h; apply h0; rw [h]; rfl
  have e0':¬ s=ByteArray.empty:=fun h=>h0 (by rw [h]; rfl)
  by_cases h64:64 < s.size
  · have hz:(64:Int) < (s.size:Int):=by omega
    have HN:Hid (namedM s=false):=by show _=_; simp [namedM]; omega
    clear h0 h64
    go_enter Tryz.func149,Tryz.ntmps149
    go_wp2
    go_ret
    exact ⟨by rw [HN.out]; rfl,rfl⟩
  have hz:¬ (64:Int) < (s.size:Int):=by omega
  by_cases h1:s.data.toList=[46]
  · have e1:(s.toList == [46])=true:=by rw [← plit1]; exact str_same h1
    have HN:Hid (namedM s=false):=by show _=_; simp [namedM,h1]
    clear h0 h64 h1
    go_enter Tryz.func149,Tryz.ntmps149
    go_wp2
    go_ret
    exact ⟨by rw [HN.out]; rfl,rfl⟩
  have e1:(s.toList == [46])=false:=by rw [← plit1]; exact str_other h1
  by_cases h2:s.data.toList=[46,46]
  · have e2:(s.toList == [46,46])=true:=by rw [← plit2]; exact str_same h2
    have HN:Hid (namedM s=false):=by show _=_; simp [namedM,h2]
    clear h0 h64 h1 h2
    go_enter Tryz.func149,Tryz.ntmps149
    go_wp2
    go_ret
    exact ⟨by rw [HN.out]; rfl,rfl⟩
  have e2:(s.toList == [46,46])=false:=by rw [← plit2]; exact str_other h2
  have HN:Hid (namedM s=s.data.toList.all (fun c=>okC c.toNat)):=by
    show _=_
    have a:decide (0 < s.size)=true:=by simp; omega
    have b:decide (s.size ≤ 64)=true:=by simp; omega
    have c:(s.data.toList == [46])=false:=by simpa using h1
    have d:(s.data.toList == [46,46])=false:=by simpa using h2
    unfold namedM
    rw [a,b,c,d]
    simp
  have hb:s.size ≤ 64:=by omega
  clear h0 h64 h1 h2
  go_enter Tryz.func149,Tryz.ntmps149
  go_wp2
  go_loopw [22] (fun ci wr=>wr=w∧∃ i:Nat,i ≤ s.size∧ci=.int .i64 (i:Int)∧(s.data.toList.take i).all (fun c=>okC c.toNat)=true) (fun ci _=>s.size - (intOf ci).toNat)
  case atStart=>exact ⟨rfl,0,by omega,rfl,by simp⟩
  case round =>
    obtain ⟨rfl,i,hi,rfl,hall⟩:=hrel
    by_cases hlt:i < s.size
    · have hat:s.data.toList[i]?=some s[i]:=at_list s i hlt
      have htk:s.data.toList.take (i + 1)=s.data.toList.take i ++ [s[i]]:=by rw [List.take_add_one,hat]; rfl
      have HALL:Hid (∀ b,okC s[i].toNat=b → (s.data.toList.take (i + 1)).all (fun c=>okC c.toNat)=b):=fun b hb=>by
        rw [htk,List.all_append,hall]
        simp [hb]
      have HBAD:Hid (okC s[i].toNat=false → namedM s=false):=fun hb=>by
        rw [HN.out,List.all_eq_false]
        exact ⟨s[i],List.mem_of_getElem? hat,by simp [hb]⟩
      clear hall htk hat
      have hz0:(0:Int) ≤ (i:Int):=by omega
      have hz1:(i:Int) < (s.size:Int):=by omega
      have hiw:IntKind.i64.wrap ((i:Int) + 1)=(i:Int) + 1:=by rw [IntKind.wrap_i64] <;> omega
      have HI:Hid (i < s.size):=hlt
      rcases hok:okC s[i].toNat with _ | _
      · go_wp2_with fail
        refine (isSign_is _ _ hok _).mono ?_
        rintro e w1 ⟨rfl,rfl⟩
        go_wp2
        go_ret
        exact ⟨by rw [HBAD.out hok]; rfl,rfl⟩
      · go_wp2_with fail
        refine (isSign_is _ _ hok _).mono ?_
        rintro e w1 ⟨rfl,rfl⟩
        go_wp2
        go_roundw
        case rel=>exact ⟨trivial,i + 1,HI.out,rfl,HALL.out _ hok⟩
        case measure=>(have:=HI.out; simp [intOf]; omega)
    · have he:i=s.size:=by omega
      have HF:Hid (namedM s=true):=by
        show _=_
        rw [HN.out,← hall,he,← list_len,List.take_length]
      subst he
      clear hall
      go_wp2
      go_ret
      exact ⟨by rw [HF.out]; rfl,rfl⟩
end Go.Proofs.YtbgbmfmgdgalbaaGreatDoor
namespace Go.Proofs.YtbgbmfmgdgalbaaGreatDoor
open Go.RowKit Go.Maps
set_option linter.unusedVariables false
def ptr (o:Option Nat):Value:=.pointer (o.map fun b=>⟨b,0,none⟩)
def ptrElem (v:Value):Option (DataW Unit × List MemPlace):=match v with
  | .pointer (some ⟨b,0,none⟩)=>some (.lit (.int .i64 (b:Int)),[])
  | .pointer none=>some (.lit (.int .i64 (-1)),[])
  | _=>none
theorem ptrElem_some (b:Nat):ptrElem (ptr (some b))=some (.lit (.int .i64 (b:Int)),[]):=rfl
theorem ptrElem_inv {v:Value} {z:DataW Unit × List MemPlace} (h:ptrElem v=some z):∃ o:Option Nat,v=ptr o∧z=(.lit (.int .i64 (match o with | some b=>(b:Int) | none=>-1)),[]):=by
  unfold ptrElem at h
  split at h
  · rename_i b
    cases h; exact ⟨some b,rfl,rfl⟩
  · cases h; exact ⟨none,rfl,rfl⟩
  · cases h
theorem lawK:Keyed Tryz.prog 9:=string_keyed Tryz.underlying9
theorem zeroP (w:World):(zeroValue 83).run Tryz.prog w=.ok (.pointer none) w:=by kernel_rfl
theorem lit_inj {a b:Int} (h:(DataW.lit (Lit.int .i64 a):DataW Unit)=.lit (.int .i64 b)):a=b:=by
  injection h with h
  injection h
theorem owns_tight {W:World} {mb n:Nat} {D:DataW Unit} (h:W.ownsMap Tryz.prog 9 ptrElem mb n D):W.ownsMap Tryz.prog 9 ptrElem mb (Maps.size D) D:=by
  obtain ⟨es,clock,hb,F,hs,rfl⟩:=h
  refine ⟨es,clock,hb,F,?_,rfl⟩
  rw [size_eq,length_read]
  exact Nat.le_refl _
structure DIs (D:DataW Unit) (k:Nat) (f:ByteArray → Option Nat):Prop where
  siz:Maps.size D=k
  has:∀ m:ByteArray,Maps.has D (.string m.data.toList)=(f m).isSome
  at_:∀ (m:ByteArray) b,f m=some b → ∀ z,D.atKey (.string m.data.toList) z=.lit (.int .i64 (b:Int))
def MapIs (W:World) (mb k:Nat) (f:ByteArray → Option Nat):Prop:=∃ D:DataW Unit,W.ownsMap Tryz.prog 9 ptrElem mb k D∧DIs D k f
theorem MapIs.to {W W':World} {mb n:Nat} {f:ByteArray → Option Nat} (h:MapIs W mb n f) (e:W'.heap[mb]?=W.heap[mb]?):MapIs W' mb n f:=by
  obtain ⟨D,⟨es,clock,hb,hF⟩,hm⟩:=h
  exact ⟨D,⟨es,clock,e.trans hb,hF⟩,hm⟩
theorem MapIs.obj {W:World} {mb n:Nat} {f:ByteArray → Option Nat} (h:MapIs W mb n f):∃ es c,W.heap[mb]?=some (.map es c):=by
  obtain ⟨D,⟨es,clock,h1,hF⟩,hm⟩:=h
  exact ⟨_,_,h1⟩
theorem MapIs.ne {W:World} {mb n g t:Nat} {L:Array Value} {f:ByteArray → Option Nat} (h:MapIs W mb n f) (hb:W.heap[g]?=some (.cells L t)):mb ≠ g:=fun e=>by
  subst e
  obtain ⟨es,c,h1⟩:=h.obj
  have:=h1.symm.trans hb
  cases this
theorem MapIs.lt {W:World} {mb n:Nat} {f:ByteArray → Option Nat} (h:MapIs W mb n f):mb < W.heap.size:=by
  obtain ⟨D,h1,hm⟩:=h
  exact h1.lt
theorem MapIs.look {W:World} {mb n:Nat} {f:ByteArray → Option Nat} (h:MapIs W mb n f) {m:ByteArray} (hs:m.size ≤ maxLen):(Instr.lookup 70 (.map (some mb)) (.string m) false).run Tryz.prog W=.ok (ptr (f m)) W:=by
  obtain ⟨D,hD,hm⟩:=h
  have h1:=hm.has m
  have h2:=hm.at_ m
  obtain ⟨v,ps,hrun,hv⟩:=hD.lookup lawK Tryz.underlying70 (zeroP W) (zd:=.lit (.int .i64 (-1))) (zp:=[]) rfl (WideMaps.keyOf_string_mk Tryz.underlying9 hs)
  obtain ⟨o,rfl,ho⟩:=ptrElem_inv hv
  rw [hrun]
  have e:o=f m:=by
    have ho1:=congrArg Prod.fst ho
    simp only at ho1
    rcases hf:f m with _ | b
    · rw [hf] at h1
      rw [atKey_of_not_has h1] at ho1
      rcases o with _ | b
      · rfl
      · have:(-1:Int)=(b:Int):=lit_inj ho1
        omega
    · rw [h2 b hf] at ho1
      rcases o with _ | b'
      · have:(b:Int)=-1:=lit_inj ho1
        omega
      · have h3:(b:Int)=(b':Int):=lit_inj ho1
        have:b=b':=by omega
        rw [this]
  rw [e]
def updM (f:ByteArray → Option Nat) (m:ByteArray) (o:Option Nat):ByteArray → Option Nat:=fun x=>if x=m then o else f x
theorem key_ne {m x:ByteArray} (h:x ≠ m):Lit.string x.data.toList ≠ Lit.string m.data.toList:=fun e=>by
  injection e with e
  exact h (ByteArray.ext (Array.toList_inj.1 e))
theorem turned_only {w w':World} {b:Nat} (h:w.mapTurned w' b):Only w w' b:=by
  obtain ⟨es,clock,es',clock',hb,rfl⟩:=h
  refine ⟨rfl,rfl,rfl,by simp [ChangeMaps.setBlock],fun k hk=>ChangeMaps.heap_setBlock_other hb _ (fun e=>hk e)⟩
theorem MapIs.put {W:World} {mb n:Nat} {f:ByteArray → Option Nat} (h:MapIs W mb n f) (hn:n < maxLen) {m:ByteArray} (hs:m.size ≤ maxLen) (b:Nat):∃ w',(Instr.mapUpdate 70 (.map (some mb)) (.string m) (ptr (some b))).run Tryz.prog W=.ok () w'∧MapIs w' mb (if (f m).isSome then n else n + 1) (updM f m (some b))∧Only W w' mb:=by
  obtain ⟨D,hD,hm⟩:=h
  obtain ⟨w',hrun,ho,ht⟩:=hD.store lawK Tryz.underlying70 hn (WideMaps.keyOf_string_mk Tryz.underlying9 hs) (ptrElem_some b)
  have hK:WideAt.IsKeyLit (.string m.data.toList):=trivial
  have hsz:=size_put (hD.tidy lawK) (k:=.string m.data.toList) (.lit (.int .i64 (b:Int)))
  rw [hm.has,hm.siz] at hsz
  refine ⟨w',hrun,⟨_,hsz ▸ owns_tight ho,hsz,fun x=>?_,fun x b' hb' z=>?_⟩,turned_only ht⟩
  · unfold updM
    by_cases hx:x=m
    · subst hx
      rw [if_pos rfl]
      exact has_put_same hD.isMap hK _
    · rw [if_neg hx]
      exact (has_put_other (key_ne hx) _).trans (hm.has x)
  · unfold updM at hb'
    by_cases hx:x=m
    · subst hx
      rw [if_pos rfl] at hb'
      cases hb'
      exact atKey_put_same hD.isMap hK _ _
    · rw [if_neg hx] at hb'
      exact (atKey_put_other (key_ne hx) _ _).trans (hm.at_ x b' hb' z)
theorem MapIs.del {W:World} {mb n:Nat} {f:ByteArray → Option Nat} (h:MapIs W mb n f) {m:ByteArray} (hs:m.size ≤ maxLen) (ty:TypeId):∃ w',(Builtin.delete_ #[70,9] ty #[.map (some mb),.string m]).run Tryz.prog W=.ok (.tuple #[]) w'∧MapIs w' mb (if (f m).isSome then n - 1 else n) (updM f m none)∧Only W w' mb:=by
  obtain ⟨D,hD,hm⟩:=h
  obtain ⟨w',hrun,ho,ht⟩:=hD.drop lawK Tryz.underlying70 (WideMaps.keyOf_string_mk Tryz.underlying9 hs) ty
  have hsz:=size_del (hD.tidy lawK) (k:=.string m.data.toList)
  rw [hm.has,hm.siz] at hsz
  have hsz':Maps.size (D.del (.string m.data.toList))=if (f m).isSome then n - 1 else n:=by split at hsz <;> split <;> simp_all <;> omega
  refine ⟨w',hrun,⟨_,hsz' ▸ owns_tight ho,hsz',fun x=>?_,fun x b' hb' z=>?_⟩,turned_only ht⟩
  · unfold updM
    by_cases hx:x=m
    · subst hx
      rw [if_pos rfl]
      exact has_del_same
    · rw [if_neg hx]
      exact (has_del_other (key_ne hx)).trans (hm.has x)
  · unfold updM at hb'
    by_cases hx:x=m
    · subst hx
      rw [if_pos rfl] at hb'
      cases hb'
    · rw [if_neg hx] at hb'
      exact (atKey_del_other (key_ne hx) _).trans (hm.at_ x b' hb' z)
theorem MapIs.made (w:World):MapIs (w.alloc (.map #[] 0)) w.heap.size 0 (fun _=>none):=
  ⟨_,World.ownsMap_made _ _ _ _,rfl,fun m=>rfl,fun m b hb=>by cases hb⟩
theorem MapIs.len {W:World} {mb n:Nat} {f:ByteArray → Option Nat} (h:MapIs W mb n f) (ty:TypeId):(Builtin.len_ #[70] ty #[.map (some mb)]).run Tryz.prog W=.ok (.int .i64 (n:Int)) W:=by
  obtain ⟨D,hD,hm⟩:=h
  rw [← hm.siz]
  exact hD.len Tryz.underlying70 ty
end Go.Proofs.YtbgbmfmgdgalbaaGreatDoor
namespace Go.Proofs.YtbgbmfmgdgalbaaGreatDoor
open Go.RowKit Go.Maps
set_option linter.unusedVariables false
set_option linter.unusedSimpArgs false
structure ModP (S:Nat → Prop) (w w':World):Prop where
  os:w'.os=w.os
  tape:w'.tape=w.tape
  output:w'.output=w.output
  size:w.heap.size ≤ w'.heap.size
  oth:∀ k,k < w.heap.size → ¬ S k → w'.heap[k]?=w.heap[k]?
theorem ModP.refl (S:Nat → Prop) (w:World):ModP S w w:=⟨rfl,rfl,rfl,Nat.le_refl _,fun _ _ _=>rfl⟩
theorem ModP.trans {S:Nat → Prop} {a b c:World} (h:ModP S a b) (k:ModP S b c):ModP S a c:=⟨k.os.trans h.os,k.tape.trans h.tape,k.output.trans h.output,Nat.le_trans h.size k.size,fun j hj hn=>(k.oth j (Nat.lt_of_lt_of_le hj h.size) hn).trans (h.oth j hj hn)⟩
theorem ModP.weak {S S':Nat → Prop} {a b:World} (h:ModP S a b) (hs:∀ k,k < a.heap.size → S k → S' k):ModP S' a b:=⟨h.os,h.tape,h.output,h.size,fun j hj hn=>h.oth j hj (fun q=>hn (hs j hj q))⟩
theorem ModP.andThen {S S':Nat → Prop} {a b c:World} (h:ModP S a b) (k:ModP S' b c) (hs:∀ j,j < a.heap.size → S' j → S j):ModP S a c:=⟨k.os.trans h.os,k.tape.trans h.tape,k.output.trans h.output,Nat.le_trans h.size k.size,fun j hj hn=>(k.oth j (Nat.lt_of_lt_of_le hj h.size) (fun q=>hn (hs j hj q))).trans (h.oth j hj hn)⟩
theorem ModP.below {S:Nat → Prop} {w w':World} (h:Below w.heap.size w w'):ModP S w w':=⟨h.os,h.tape,h.output,h.size,fun k hk _=>h.block k hk⟩
theorem ModP.only {S:Nat → Prop} {b:Nat} {w w':World} (h:Only w w' b) (hb:S b):ModP S w w':=⟨h.os,h.tape,h.output,by rw [h.size]; exact Nat.le_refl _,fun k _ hn=>h.other k (fun e=>hn (e ▸ hb))⟩
theorem ModP.grown {S:Nat → Prop} {w w':World} {r:Option Nat} (h:w.grownBy w' r) (hr:∀ b,r=some b → S b):ModP S w w':=⟨h.os,h.tape,h.output,h.size,fun k hk hn=>h.block k hk (fun e=>hn (hr k e.symm))⟩
theorem ModP.row {S:Nat → Prop} {w w':World} {k:Nat} {o:Obj} (h:ModP S w w') (hk:w.heap[k]?=some o) (hn:¬ S k):w'.heap[k]?=some o:=(h.oth k (row_lt hk) hn).trans hk
theorem ModP.dn {S:Nat → Prop} {w w':World} (h:ModP S w w') (n:Nat):ModP S w (w'.drewN n):=h.trans ⟨rfl,rfl,rfl,Nat.le_refl _,fun _ _ _=>rfl⟩
theorem ModP.bel {S:Nat → Prop} {w w':World} {B:Nat} (h:ModP S w w') (hS:∀ k,k < B → ¬ S k) (hB:B ≤ w.heap.size):Below B w w':=⟨h.os,h.tape,h.output,h.size,fun k hk=>h.oth k (by omega) (hS k hk)⟩
def apF (f:ByteArray → Option Nat) (n t:ByteArray) (b:Nat):ByteArray → Option Nat:=if t.size=0 then updM f n none else updM (updM f n none) t (some b)
set_option maxHeartbeats 2000000 in
theorem apply_any (mb k:Nat) (f:ByteArray → Option Nat) (n t:ByteArray) (b:Nat) (hn:n.size ≤ 140737488355328) (ht:t.size ≤ 140737488355328) (hk:k ≤ 1099511627776) (w:World) (h:MapIs w mb k f) :
    Calls Tryz.prog 85 #[.map (some mb),.agg #[.string n,.string t,ptr (some b)]] w fun e w'=>e=.returned (.tuple #[])∧ModP (fun j=>j=mb) w w'∧∃ k',k' ≤ k + 1∧MapIs w' mb k' (apF f n t b):=by
  obtain ⟨W0,hW0⟩:∃ W0,W0=w.alloc (.cells #[.string n,.string t,ptr (some b)] 100):=⟨_,rfl⟩
  have hb0:Below w.heap.size w W0:=by rw [hW0]; exact (Below.refl _ _).alloc (Nat.le_refl _) _
  have h0:MapIs W0 mb k f:=h.to (hb0.block mb h.lt)
  have hrow:W0.heap[w.heap.size]?=some (.cells #[.string n,.string t,ptr (some b)] 100):=by rw [hW0]; exact one_alloc _ _
  obtain ⟨W1,hr1,h1,ho1⟩:=h0.del (m:=n) (by unfold maxLen; omega) 0
  have hrow1:W1.heap[w.heap.size]?=some (.cells #[.string n,.string t,ptr (some b)] 100):=(ho1.other _ (fun e=>Nat.ne_of_lt h.lt e.symm)).trans hrow
  have hm1:ModP (fun j=>j=mb) w W1:=(ModP.below hb0).trans (ModP.only ho1 rfl)
  have hdel:∀ ty,(Builtin.delete_ #[70,9] ty #[.map (some mb),.string n]).run Tryz.prog W0=.ok (.tuple #[]) W1:=fun ty=>hr1
  have c00:W0.cell? ⟨w.heap.size,0,none⟩=some (.string n):=by rw [cell_of_row _ _ _ _ _ _ hrow]; rfl
  have c11:W1.cell? ⟨w.heap.size,1,none⟩=some (.string t):=by rw [cell_of_row _ _ _ _ _ _ hrow1]; rfl
  have c12:W1.cell? ⟨w.heap.size,2,none⟩=some (ptr (some b)):=by rw [cell_of_row _ _ _ _ _ _ hrow1]; rfl
  obtain ⟨R,hR⟩:∃ R,w.heap.size=R:=⟨_,rfl⟩
  rw [hR] at c00 c11 c12
  have HM1:Hid (ModP (fun j=>j=mb) w W1):=hm1
  by_cases ht0:t.size=0
  · have e0:t.toList.isEmpty=true:=str_empty ht0
    have HF:Hid (MapIs W1 mb (if (f n).isSome then k - 1 else k) (apF f n t b)):=by
      show MapIs _ _ _ _
      unfold apF; rw [if_pos ht0]; exact h1
    have HK:Hid ((if (f n).isSome then k - 1 else k) ≤ k + 1):=by show _ ≤ _; split <;> omega
    clear hr1 h1 h0 hb0 hrow hrow1 ho1 hm1 ht0 h c12
    go_enter Tryz.func85,Tryz.ntmps85
    go_upto_region 1 with fail
    rw [← hW0]
    clear hW0
    go_wp2
    go_end0
    exact ⟨rfl,HM1.out,_,HK.out,HF.out⟩
  · have e0:t.toList.isEmpty=false:=str_full ht0
    obtain ⟨W2,hr2,h2,ho2⟩:=h1.put (m:=t) (by unfold maxLen; split <;> omega) (by unfold maxLen; omega) b
    have HM2:Hid (ModP (fun j=>j=mb) w W2):=hm1.trans (ModP.only ho2 rfl)
    have HF:Hid (∃ k',k' ≤ k + 1∧MapIs W2 mb k' (apF f n t b)):=by
      show ∃ k',_
      have hap:apF f n t b=updM (updM f n none) t (some b):=if_neg ht0
      rw [hap]
      exact ⟨_,by split <;> split <;> omega,h2⟩
    clear hr1 h1 h0 hb0 hrow hrow1 ho1 hm1 ht0 h h2 ho2
    go_enter Tryz.func85,Tryz.ntmps85
    go_upto_region 1 with fail
    rw [← hW0]
    clear hW0
    go_wp2
    go_end0
    exact ⟨rfl,HM2.out,HF.out⟩
end Go.Proofs.YtbgbmfmgdgalbaaGreatDoor
