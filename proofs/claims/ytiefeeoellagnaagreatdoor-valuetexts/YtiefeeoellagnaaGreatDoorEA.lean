import Derived.Test.YtiefeeoellagnaaGreatDoorProg
import Derived.WalkKit
import Derived.WalkSpells
import Derived.WalkLawsBesides
import Derived.Handy
import Derived.Laws.BytesArg
import Derived.Laws.IdiomStrings
import Derived.Lib.AppendStr
import Derived.Deep.QuietTactic
import Derived.BigQuiet
import Derived.RangeFuncOwn
import Derived.OwnWalk
import Derived.Deep.OwnRows
import Derived.Laws.AppendOwn
import Derived.Deep.Cut
import Derived.Deep.RegionWith
import Derived.Deep.CutRange
namespace Go.Proofs.YtiefeeoellagnaaGreatDoor.S8
open Go.RowKit
set_option linter.unusedVariables false

theorem at_list (s:ByteArray) (k:Nat) (h:k < s.size):s.data.toList[k]?=some s[k]:=by
  rw [List.getElem?_eq_getElem (by simpa using h)]; rfl
theorem list_len (s:ByteArray):s.data.toList.length=s.size:=by show _=s.data.size; simp
theorem str_same {a b:ByteArray} (h:a.data.toList=b.data.toList):(a.toList == b.toList)=true:=by
  rw [ByteArray.toList_eq,ByteArray.toList_eq,h]; simp
def strB (l:List UInt8):ByteArray:=⟨l.toArray⟩
theorem row_lt {w:World} {b:Nat} {o:Obj} (h:w.heap[b]?=some o):b < w.heap.size:=by
  rcases Nat.lt_or_ge b w.heap.size with h' | h'
  · exact h'
  · rw [Array.getElem?_eq_none h'] at h; cases h
end Go.Proofs.YtiefeeoellagnaaGreatDoor.S8
namespace Go.Proofs.YtiefeeoellagnaaGreatDoor.S8
open Go.RowKit
set_option linter.unusedVariables false
structure Only (w w':World) (g:Nat):Prop where
  os:w'.os=w.os
  tape:w'.tape=w.tape
  output:w'.output=w.output
  size:w'.heap.size=w.heap.size
  other:∀ k,k ≠ g → w'.heap[k]?=w.heap[k]?
theorem Only.refl (w:World) (g:Nat):Only w w g:=⟨rfl,rfl,rfl,rfl,fun _ _=>rfl⟩
theorem Only.trans {w w1 w2:World} {g:Nat} (h:Only w w1 g) (h':Only w1 w2 g):Only w w2 g:=
  ⟨h'.os.trans h.os,h'.tape.trans h.tape,h'.output.trans h.output,h'.size.trans h.size,fun k hk=>(h'.other k hk).trans (h.other k hk)⟩
theorem Only.set {w w':World} {g:Nat} (h:Only w w' g) (i:Nat) (v:Value):Only w (w'.setCell ⟨g,i,none⟩ v) g:=
  h.trans ⟨rfl,rfl,rfl,by simp,fun k hk=>heap_setCell_other _ _ _ _ hk⟩
theorem one_alloc (w:World) (A:Obj):(w.alloc A).heap[w.heap.size]?=some A:=by
  show (w.heap.push A)[w.heap.size]?=some A
  rw [Array.getElem?_push,if_pos rfl]
theorem keep_row {w w':World} {g:Nat} {o:Obj} (h:w.heap[g]?=some o) (hb:Below w.heap.size w w'):w'.heap[g]?=some o:=(hb.block g (row_lt h)).trans h
theorem bel_to {B:Nat} {w w1 w2:World} (h1:Below B w w1) (h2:Below w1.heap.size w1 w2) (hB:B ≤ w.heap.size):Below B w w2:=h1.trans (h2.mono (Nat.le_trans hB h1.size))
theorem lt_of_cell {w:World} {a:Addr} {v:Value} (h:w.cell? a=some v):a.block < w.heap.size:=by
  obtain ⟨o,ho,_⟩:=cells_of_cell h; exact row_lt ho
theorem cell_on {w w':World} {a:Addr} {v:Value} (h:w.cell? a=some v) (hb:Below w.heap.size w w'):w'.cell? a=some v:=
  (hb.cell (p:=a) (lt_of_cell h)).trans h
structure Md (g B:Nat) (w w':World):Prop where
  os:w'.os=w.os
  tape:w'.tape=w.tape
  output:w'.output=w.output
  size:w.heap.size ≤ w'.heap.size
  oth:∀ k,k < w.heap.size → k ≠ g → k ≠ B → w'.heap[k]?=w.heap[k]?
theorem Md.of {g B:Nat} {w w':World} (h:Below w.heap.size w w'):Md g B w w':=⟨h.os,h.tape,h.output,h.size,fun k hk _ _=>h.block k hk⟩
theorem Md.trans {g B:Nat} {w w1 w2:World} (h:Md g B w w1) (h':Md g B w1 w2):Md g B w w2:=
  ⟨h'.os.trans h.os,h'.tape.trans h.tape,h'.output.trans h.output,Nat.le_trans h.size h'.size,fun k hk h1 h2=>(h'.oth k (Nat.lt_of_lt_of_le hk h.size) h1 h2).trans (h.oth k hk h1 h2)⟩
theorem Md.only {g B:Nat} {w w':World} {k0:Nat} (h:Only w w' k0) (hk:k0=g ∨ k0=B):Md g B w w':=
  ⟨h.os,h.tape,h.output,by rw [h.size]; exact Nat.le_refl _,fun k _ h1 h2=>h.other k (by rcases hk with rfl | rfl <;> assumption)⟩
theorem Md.setG {g B:Nat} {w w':World} (h:Md g B w w') (i:Nat) (v:Value):Md g B w (w'.setCell ⟨g,i,none⟩ v):=h.trans (Md.only ((Only.refl _ _).set i v) (Or.inl rfl))
theorem Md.setB {g B:Nat} {w w':World} (h:Md g B w w') (i:Nat) (v:Value):Md g B w (w'.setCell ⟨B,i,none⟩ v):=h.trans (Md.only ((Only.refl _ _).set i v) (Or.inr rfl))
theorem Md.wide {g B:Nat} {w w':World} (h:Md g g w w'):Md g B w w':=⟨h.os,h.tape,h.output,h.size,fun k hk h1 _=>h.oth k hk h1 h1⟩
theorem Md.tight {g B:Nat} {w w':World} (h:Md g B w w') (hB:w.heap.size ≤ B):Md g g w w':=⟨h.os,h.tape,h.output,h.size,fun k hk h1 _=>h.oth k hk h1 (by omega)⟩
end Go.Proofs.YtiefeeoellagnaaGreatDoor.S8
namespace Go.Proofs.YtiefeeoellagnaaGreatDoor.S8
open Go.RowKit
set_option linter.unusedVariables false
def hstep (h:Int) (c:UInt8):Int:=IntKind.u64.wrap (bits .xor .u64 h (IntKind.u64.wrap (c.toNat:Int)) * 1099511628211)
def hfold (h:Int) (l:List UInt8):Int:=l.foldl hstep h
theorem hfold_snoc (h:Int) (l:List UInt8) (k:Nat) (c:UInt8) (hk:l[k]?=some c):hfold h (l.take (k + 1))=hstep (hfold h (l.take k)) c:=by
  obtain ⟨hl,e⟩:=List.getElem?_eq_some_iff.1 hk
  unfold hfold; rw [List.take_succ_eq_append_getElem hl,List.foldl_append,e]; rfl
def hseed (seed:Int):Int:=bits .xor .u64 14695981039346656037 (IntKind.u64.wrap seed)
def hmix (h:Int):Int:=IntKind.u64.wrap (bits .xor .u64 h (h / 4294967296) * 11400714819323198485)
def hfin (h:Int):Int:=wrap64 (bits .xor .u64 (hmix h) (hmix h / 536870912) / 2)
def hashT (seed:Int) (s:ByteArray):Int:=hfin (hfold (hseed seed) s.data.toList)
set_option maxHeartbeats 1000000 in
set_option maxRecDepth 100000 in
theorem Hash_any (seed:Int) (s:ByteArray) (hs:s.size ≤ 281474976710656) (w:World):Calls Tryz.prog 356 #[.int .i64 seed,.string s] w fun e w'=>e=.returned (.int .i64 (hashT seed s))∧w'=w:=by
  have HH:Hid (hashT seed s=hfin (hfold (hseed seed) s.data.toList)):=rfl
  go_enter Tryz.func356,Tryz.ntmps356
  go_wp2
  go_loopw [5,12] (fun ch ci wr=>wr=w∧∃ k:Nat,k ≤ s.size∧ci=.int .i64 (k:Int)∧ch=.int .u64 (hfold (hseed seed) (s.data.toList.take k))) (fun _ ci _=>s.size - (intOf ci).toNat)
  case atStart=>exact ⟨rfl,0,by omega,rfl,rfl⟩
  case round =>
    obtain ⟨rfl,k,hk,rfl,rfl⟩:=hrel
    by_cases hlt:k < s.size
    · have HSN:Hid _:=hfold_snoc (hseed seed) s.data.toList k _ (at_list s k hlt)
      generalize hfold (hseed seed) (s.data.toList.take k)=h at *
      go_wp2
      go_roundw
      case rel =>
        refine ⟨trivial,k + 1,hlt,by simp,?_⟩
        rw [HSN.out]; rfl
      case measure=>simp [intOf]; omega
    · have he:k=s.size:=by omega
      subst he
      rw [List.take_of_length_le (by rw [list_len]; exact Nat.le_refl _)]
      generalize hfold (hseed seed) s.data.toList=h at *
      go_wp2
      go_ret
      refine ⟨?_,rfl⟩
      rw [HH.out]; rfl
end Go.Proofs.YtiefeeoellagnaaGreatDoor.S8
namespace Go.Proofs.YtiefeeoellagnaaGreatDoor.S8
open Go.RowKit
set_option linter.unusedVariables false
theorem size_any (g o:Nat) (P:Option Addr) (n c:Nat) (w:World) (h:w.cell? ⟨g,o,none⟩=some (.slice P n c)):Calls Tryz.prog 417 #[.pointer (some ⟨g,o,none⟩)] w fun e w'=>e=.returned (.int .i64 (n:Int))∧w'=w:=by
  go_enter Tryz.func417,Tryz.ntmps417
  go_wp2
  go_ret
  exact ⟨rfl,rfl⟩
theorem moves_no (g:Nat) (P:Option Addr) (c:Nat) (w:World) (h:w.cell? ⟨g,3,none⟩=some (.slice P 0 c)):Calls Tryz.prog 389 #[.pointer (some ⟨g,0,none⟩)] w fun e w'=>e=.returned (.bool false)∧w'=w:=by
  have HS:Hid _:=size_any g 3 P 0 c w h
  clear h
  go_enter Tryz.func389,Tryz.ntmps389
  go_wp2_with fail
  refine (show Calls _ _ _ _ _ from HS.out).mono ?_
  rintro e w1 ⟨rfl,rfl⟩
  go_wp2
  go_ret
  exact ⟨rfl,rfl⟩
theorem step_no (g:Nat) (P:Option Addr) (c:Nat) (w:World) (h:w.cell? ⟨g,3,none⟩=some (.slice P 0 c)):Calls Tryz.prog 387 #[.pointer (some ⟨g,0,none⟩)] w fun e w'=>e=.returned (.tuple #[])∧w'=w:=by
  have HS:Hid _:=moves_no g P c w h
  clear h
  go_enter Tryz.func387,Tryz.ntmps387
  go_wp2_with fail
  refine (show Calls _ _ _ _ _ from HS.out).mono ?_
  rintro e w1 ⟨rfl,rfl⟩
  go_wp2
  go_returns
  exact ⟨rfl,rfl⟩
theorem place_nil (g o:Nat) (P:Option Addr) (c:Nat) (h:Int) (s:ByteArray) (w:World) (hc:w.cell? ⟨g,o,none⟩=some (.slice P 0 c)):Calls Tryz.prog 420 #[.pointer (some ⟨g,o,none⟩),.int .i64 h,.string s] w fun e w'=>e=.returned (.tuple #[.int .i64 0,.int .i64 0,.bool false])∧w'=w:=by
  have HS:Hid _:=size_any g o P 0 c w hc
  clear hc
  go_enter Tryz.func420,Tryz.ntmps420
  go_wp2_with fail
  refine (show Calls _ _ _ _ _ from HS.out).mono ?_
  rintro e w1 ⟨rfl,rfl⟩
  go_wp2
  go_returns
  exact ⟨rfl,rfl⟩
theorem tfind_nil (g o:Nat) (P:Option Addr) (c:Nat) (h:Int) (s:ByteArray) (w:World) (hc:w.cell? ⟨g,o,none⟩=some (.slice P 0 c)):Calls Tryz.prog 413 #[.pointer (some ⟨g,o,none⟩),.int .i64 h,.string s] w fun e w'=>e=.returned (.pointer none)∧w'=w:=by
  have HS:Hid _:=place_nil g o P c h s w hc
  clear hc
  go_enter Tryz.func413,Tryz.ntmps413
  go_wp2_with fail
  refine (show Calls _ _ _ _ _ from HS.out).mono ?_
  rintro e w1 ⟨rfl,rfl⟩
  go_wp2
  go_ret
  exact ⟨rfl,rfl⟩
theorem find_nil (g:Nat) (P Q:Option Addr) (c d:Nat) (h:Int) (s:ByteArray) (w:World) (h1:w.cell? ⟨g,1,none⟩=some (.slice P 0 c)) (h2:w.cell? ⟨g,3,none⟩=some (.slice Q 0 d)):Calls Tryz.prog 386 #[.pointer (some ⟨g,0,none⟩),.int .i64 h,.string s] w fun e w'=>e=.returned (.pointer none)∧w'=w:=by
  have HS1:Hid _:=tfind_nil g 1 P c h s w h1
  have HS2:Hid _:=tfind_nil g 3 Q d h s w h2
  clear h1 h2
  go_enter Tryz.func386,Tryz.ntmps386
  go_wp2_with fail
  refine (show Calls _ _ _ _ _ from HS1.out).mono ?_
  rintro e w1 ⟨rfl,rfl⟩
  go_wp2_with fail
  refine (show Calls _ _ _ _ _ from HS2.out).mono ?_
  rintro e w1 ⟨rfl,rfl⟩
  go_wp2
  go_ret
  exact ⟨rfl,rfl⟩
theorem infoB:(Tryz.prog.info? 539).map (fun i=>(i.zero,i.size,i.bytes))=some (some (.slice none 0 0),1,24):=by kernel_rfl
set_option maxHeartbeats 1000000 in
set_option maxRecDepth 100000 in
theorem newTable_any (n:Nat) (hn:n ≤ 4398046511104) (w:World):Calls Tryz.prog 418 #[.int .i64 (n:Int)] w fun e w'=>e=.returned (.agg #[.slice (some ⟨w.heap.size + 1,0,none⟩) n n,.int .i64 0])∧w'.heap[w.heap.size + 1]?=some (.cells (madeCells #[.slice none 0 0] n) 539)∧Below w.heap.size w w':=by
  have hmk:=run_make_row' (P:=Tryz.prog) 483 539 (.slice none 0 0) 24 Tryz.underlying483 infoB rfl .i64 .i64 n (by omega) (by omega)
  go_enter Tryz.func418,Tryz.ntmps418
  go_wp2
  have hr1:=keep_row (one_alloc w (.cells #[.slice (some ⟨w.heap.size + 1,0,none⟩) n n,.int .i64 0] 485)) ((Below.refl _ _).alloc (Nat.le_refl _) (.cells (madeCells #[.slice none 0 0] n) 539))
  have hr2:=one_alloc (w.alloc (.cells #[.slice (some ⟨w.heap.size + 1,0,none⟩) n n,.int .i64 0] 485)) (.cells (madeCells #[.slice none 0 0] n) 539)
  rw [World.size_alloc] at hr2
  have c0:((w.alloc (.cells #[.slice (some ⟨w.heap.size + 1,0,none⟩) n n,.int .i64 0] 485)).alloc (.cells (madeCells #[.slice none 0 0] n) 539)).cell? ⟨w.heap.size,0,none⟩=some (.slice (some ⟨w.heap.size + 1,0,none⟩) n n):=by rw [cell_of_row _ _ _ _ _ _ hr1]; rfl
  have c1:((w.alloc (.cells #[.slice (some ⟨w.heap.size + 1,0,none⟩) n n,.int .i64 0] 485)).alloc (.cells (madeCells #[.slice none 0 0] n) 539)).cell? ⟨w.heap.size,1,none⟩=some (.int .i64 0):=by rw [cell_of_row _ _ _ _ _ _ hr1]; rfl
  refine bodyPost_ret (v:=.agg #[.slice (some ⟨w.heap.size + 1,0,none⟩) n n,.int .i64 0]) (by simp [results,Tryz.results418,go_sem,c0,c1]) rfl ⟨rfl,hr2,?_⟩
  exact ((Below.refl _ w).alloc (Nat.le_refl _) _).alloc (by simp) _
theorem newTable_4 (w:World):Calls Tryz.prog 418 #[.int .i64 4] w fun e w'=>e=.returned (.agg #[.slice (some ⟨w.heap.size + 1,0,none⟩) 4 4,.int .i64 0])∧w'.heap[w.heap.size + 1]?=some (.cells #[.slice none 0 0,.slice none 0 0,.slice none 0 0,.slice none 0 0] 539)∧Below w.heap.size w w':=by
  have h:=newTable_any 4 (by decide) w
  rw [show madeCells #[.slice none 0 0] 4=#[.slice none 0 0,.slice none 0 0,.slice none 0 0,.slice none 0 0] by kernel_rfl,show ((4:Nat):Int)=4 from rfl] at h
  exact h
theorem row6 {w:World} {g T:Nat} {v0 v1 v2 v3 v4 v5:Value} (h:w.heap[g]?=some (.cells #[v0,v1,v2,v3,v4,v5] T)) :
    w.cell? ⟨g,0,none⟩=some v0∧w.cell? ⟨g,1,none⟩=some v1∧w.cell? ⟨g,2,none⟩=some v2∧w.cell? ⟨g,3,none⟩=some v3∧w.cell? ⟨g,4,none⟩=some v4∧w.cell? ⟨g,5,none⟩=some v5∧∀ j,w.frozen? ⟨g,j,none⟩=false:=by
  refine ⟨?_,?_,?_,?_,?_,?_,fun j=>frozen_of_row _ _ _ _ _ h⟩ <;> rw [cell_of_row _ _ _ _ _ _ h] <;> rfl
def dcells (P:Option Addr) (n c:Nat) (k:Int):Array Value:=#[.int .i64 0,.slice P n c,.int .i64 k,.slice none 0 0,.int .i64 0,.int .i64 0]
set_option maxHeartbeats 1000000 in
set_option maxRecDepth 100000 in
theorem makeRoom_0 (g:Nat) (w:World) (h:w.heap[g]?=some (.cells (dcells none 0 0 0) 487)):Calls Tryz.prog 388 #[.pointer (some ⟨g,0,none⟩)] w fun e w'=>e=.returned (.tuple #[])∧∃ B,w.heap.size ≤ B∧w'.heap[g]?=some (.cells (dcells (some ⟨B,0,none⟩) 4 4 0) 487)∧w'.heap[B]?=some (.cells #[.slice none 0 0,.slice none 0 0,.slice none 0 0,.slice none 0 0] 539)∧w.heap.size ≤ w'.heap.size∧Md g g w w':=by
  have HR:Hid _:=h
  obtain ⟨c0,c1,c2,c3,c4,c5,cf⟩:=row6 h
  have HS:Hid _:=size_any g 1 none 0 0 w c1
  have HN:Hid _:=newTable_4 w
  clear h
  go_enter Tryz.func388,Tryz.ntmps388
  go_wp2_with fail
  refine (show Calls _ _ _ _ _ from HS.out).mono ?_
  rintro e w1 ⟨rfl,rfl⟩
  go_wp2_with fail
  refine (show Calls _ _ _ _ _ from HN.out).mono ?_
  rintro e w2 ⟨rfl,hB,hb⟩
  have HR2:Hid _:=keep_row HR.out hb
  have HB:Hid _:=hB
  have HBL:Hid (Below _ _ w2):=hb
  clear c0 c1 c2 c3 c4 c5 cf hb hB
  obtain ⟨c0,c1,c2,c3,c4,c5,cf⟩:=row6 HR2.out
  go_wp2
  go_returns
  have hgl:=row_lt HR.out
  refine ⟨rfl,w1.heap.size + 1,by omega,?_,?_,?_,?_⟩
  · rw [heap_setCell_same _ _ _ _ _ _ (heap_setCell_same _ _ _ _ _ _ HR2.out)]; rfl
  · rw [heap_setCell_other _ _ _ _ (show w1.heap.size + 1 ≠ g by omega),heap_setCell_other _ _ _ _ (show w1.heap.size + 1 ≠ g by omega)]; exact HB.out
  · rw [World.size_setCell,World.size_setCell]; exact HBL.out.size
  · exact ((Md.of HBL.out).setG _ _).setG _ _
end Go.Proofs.YtiefeeoellagnaaGreatDoor.S8
namespace Go.Proofs.YtiefeeoellagnaaGreatDoor.S8
open Go.RowKit
set_option linter.unusedVariables false
def kA:ByteArray:=⟨#[97]⟩
theorem nan_no (s:ByteArray) (w:World):Calls Tryz.prog 231 #[.string s] w fun e w'=>e=.returned (.bool false)∧w'=w:=by
  have h:(s.toList == s.toList)=true:=str_same rfl
  go_enter Tryz.func231,Tryz.ntmps231
  go_wp2
  go_returns
  exact ⟨rfl,rfl⟩
theorem cmp_a (w:World):Calls Tryz.prog 186 #[.string ⟨#[97]⟩,.string ⟨#[97]⟩] w fun e w'=>e=.returned (.int .i64 0)∧w'=w:=by
  have HN:Hid (∀ w,Calls Tryz.prog 231 #[.string ⟨#[97]⟩] w fun e w'=>e=.returned (.bool false)∧w'=w):=nan_no _
  go_enter Tryz.func186,Tryz.ntmps186
  go_wp2_with fail
  refine (show Calls _ _ _ _ _ from HN.out _).mono ?_
  rintro e w1 ⟨rfl,rfl⟩
  go_wp2_with fail
  refine (show Calls _ _ _ _ _ from HN.out _).mono ?_
  rintro e w1 ⟨rfl,rfl⟩
  go_wp2
  trace_state
  go_returns
  exact ⟨rfl,rfl⟩
theorem place1_a (v:ByteArray) (w:World):Calls Tryz.prog 438 #[.agg #[.string ⟨#[97]⟩,.string v],.string ⟨#[97]⟩] w fun e w'=>e=.returned (.int .i64 0)∧Below w.heap.size w w':=by
  have HC:Hid _:=cmp_a
  have hr:=one_alloc w (.cells #[.string ⟨#[97]⟩,.string v] 518)
  go_enter Tryz.func438,Tryz.ntmps438
  go_wp2_with fail
  refine (show Calls _ _ _ _ _ from HC.out _).mono ?_
  rintro e w1 ⟨rfl,rfl⟩
  go_wp2
  go_returns
  exact ⟨rfl,(Below.refl _ w).alloc (Nat.le_refl _) _⟩
end Go.Proofs.YtiefeeoellagnaaGreatDoor.S8
namespace Go.Proofs.YtiefeeoellagnaaGreatDoor.S8
open Go.RowKit
set_option linter.unusedVariables false
def bcells (b:Value):Array Value:=#[.slice none 0 0,b,.slice none 0 0,.slice none 0 0]
theorem row4 {w:World} {g T:Nat} {v0 v1 v2 v3:Value} (h:w.heap[g]?=some (.cells #[v0,v1,v2,v3] T)) :
    w.cell? ⟨g,0,none⟩=some v0∧w.cell? ⟨g,1,none⟩=some v1∧w.cell? ⟨g,2,none⟩=some v2∧w.cell? ⟨g,3,none⟩=some v3∧∀ j,w.frozen? ⟨g,j,none⟩=false:=by
  refine ⟨?_,?_,?_,?_,fun j=>frozen_of_row _ _ _ _ _ h⟩ <;> rw [cell_of_row _ _ _ _ _ _ h] <;> rfl
set_option maxHeartbeats 1000000 in
set_option maxRecDepth 100000 in
theorem bs_nil (s:ByteArray) (w:World):Calls Tryz.prog 437 #[.slice none 0 0,.string s,.func (.func 438) #[] #[]] w fun e w'=>e=.returned (.tuple #[.int .i64 0,.bool false])∧w'=w:=by
  go_enter Tryz.func437,Tryz.ntmps437
  go_wp2
  go_loopw [9,10] (fun ci cj wr=>wr=w∧ci=.int .i64 0∧cj=.int .i64 0) (fun _ _ _=>0)
  case atStart=>exact ⟨rfl,rfl,rfl⟩
  case round =>
    obtain ⟨rfl,rfl,rfl⟩:=hrel
    go_wp2
    go_returns
    exact ⟨rfl,rfl⟩
set_option maxHeartbeats 1000000 in
set_option maxRecDepth 100000 in
theorem bs_one (v:ByteArray) (E c:Nat) (w:World) (h0:w.cell? ⟨E,0,none⟩=some (.string ⟨#[97]⟩)) (h1:w.cell? ⟨E,1,none⟩=some (.string v)):Calls Tryz.prog 437 #[.slice (some ⟨E,0,none⟩) 1 c,.string ⟨#[97]⟩,.func (.func 438) #[] #[]] w fun e w'=>e=.returned (.tuple #[.int .i64 0,.bool true])∧Below w.heap.size w w':=by
  have HP:Hid _:=place1_a v
  have H0:Hid _:=h0
  have H1:Hid _:=h1
  clear h0 h1
  go_enter Tryz.func437,Tryz.ntmps437
  go_wp2
  go_loopw [9,10] (fun ci cj wr=>Below w.heap.size w wr∧ci=.int .i64 0∧(cj=.int .i64 1 ∨ cj=.int .i64 0)) (fun _ cj _=>(intOf cj).toNat)
  case atStart=>exact ⟨Below.refl _ _,rfl,Or.inl rfl⟩
  case round =>
    obtain ⟨hb,rfl,rfl | rfl⟩:=hrel
    · have HB:Hid (Below w.heap.size w wr):=hb
      have e0:=cell_on H0.out hb
      have e1:=cell_on H1.out hb
      clear hb
      go_wp2_with fail
      refine (show Calls _ _ _ _ _ from HP.out _).mono ?_
      rintro e w1 ⟨rfl,hb1⟩
      have HB1:Hid (Below w.heap.size w w1):=bel_to HB.out hb1 (Nat.le_refl _)
      clear hb1 e0 e1
      go_wp2
      go_roundw
      case rel=>exact ⟨HB1.out,rfl,Or.inr rfl⟩
      case measure=>simp [intOf]
    · have HB:Hid (Below w.heap.size w wr):=hb
      have e0:=cell_on H0.out hb
      have e1:=cell_on H1.out hb
      clear hb
      go_wp2_with fail
      refine (show Calls _ _ _ _ _ from HP.out _).mono ?_
      rintro e w1 ⟨rfl,hb1⟩
      have HB1:Hid (Below w.heap.size w w1):=bel_to HB.out hb1 (Nat.le_refl _)
      clear hb1 e0 e1
      go_wp2
      go_returns
      exact ⟨rfl,HB1.out⟩
set_option maxHeartbeats 1000000 in
set_option maxRecDepth 100000 in
theorem place_new (h:Int) (hh:bits .and .i64 h 3=1) (g B:Nat) (w:World) (hc:w.cell? ⟨g,1,none⟩=some (.slice (some ⟨B,0,none⟩) 4 4)) (hB:w.heap[B]?=some (.cells (bcells (.slice none 0 0)) 539)):Calls Tryz.prog 420 #[.pointer (some ⟨g,1,none⟩),.int .i64 h,.string ⟨#[97]⟩] w fun e w'=>e=.returned (.tuple #[.int .i64 1,.int .i64 0,.bool false])∧w'=w:=by
  have HS:Hid _:=size_any g 1 _ 4 4 w hc
  obtain ⟨b0,b1,b2,b3,bf⟩:=row4 hB
  go_enter Tryz.func420,Tryz.ntmps420
  go_wp2_with fail
  refine (show Calls _ _ _ _ _ from HS.out).mono ?_
  rintro e w1 ⟨rfl,rfl⟩
  go_wp2_with fail
  refine (show Calls _ _ _ _ _ from HS.out).mono ?_
  rintro e w1 ⟨rfl,rfl⟩
  go_wp2_with fail
  refine (show Calls _ _ _ _ _ from (bs_nil _ _)).mono ?_
  rintro e w1 ⟨rfl,rfl⟩
  go_wp2
  go_returns
  exact ⟨rfl,rfl⟩
set_option maxHeartbeats 1000000 in
set_option maxRecDepth 100000 in
theorem place_one (h:Int) (hh:bits .and .i64 h 3=1) (g B E c:Nat) (v:ByteArray) (w:World) (hc:w.cell? ⟨g,1,none⟩=some (.slice (some ⟨B,0,none⟩) 4 4)) (hB:w.heap[B]?=some (.cells (bcells (.slice (some ⟨E,0,none⟩) 1 c)) 539)) (h0:w.cell? ⟨E,0,none⟩=some (.string ⟨#[97]⟩)) (h1:w.cell? ⟨E,1,none⟩=some (.string v)):Calls Tryz.prog 420 #[.pointer (some ⟨g,1,none⟩),.int .i64 h,.string ⟨#[97]⟩] w fun e w'=>e=.returned (.tuple #[.int .i64 1,.int .i64 0,.bool true])∧Below w.heap.size w w':=by
  have HS:Hid _:=size_any g 1 _ 4 4 w hc
  have HBS:Hid _:=bs_one v E c w h0 h1
  obtain ⟨b0,b1,b2,b3,bf⟩:=row4 hB
  clear h0 h1
  go_enter Tryz.func420,Tryz.ntmps420
  go_wp2_with fail
  refine (show Calls _ _ _ _ _ from HS.out).mono ?_
  rintro e w1 ⟨rfl,rfl⟩
  go_wp2_with fail
  refine (show Calls _ _ _ _ _ from HS.out).mono ?_
  rintro e w1 ⟨rfl,rfl⟩
  go_wp2_with fail
  refine (show Calls _ _ _ _ _ from HBS.out).mono ?_
  rintro e w2 ⟨rfl,hb2⟩
  have HB2:Hid (Below _ _ w2):=hb2
  clear hb2 b0 b1 b2 b3 bf
  go_wp2
  go_returns
  exact ⟨rfl,HB2.out⟩
set_option maxHeartbeats 1000000 in
set_option maxRecDepth 100000 in
theorem tfind_one (h:Int) (hh:bits .and .i64 h 3=1) (g B E c:Nat) (v:ByteArray) (w:World) (hc:w.cell? ⟨g,1,none⟩=some (.slice (some ⟨B,0,none⟩) 4 4)) (hB:w.heap[B]?=some (.cells (bcells (.slice (some ⟨E,0,none⟩) 1 c)) 539)) (h0:w.cell? ⟨E,0,none⟩=some (.string ⟨#[97]⟩)) (h1:w.cell? ⟨E,1,none⟩=some (.string v)):Calls Tryz.prog 413 #[.pointer (some ⟨g,1,none⟩),.int .i64 h,.string ⟨#[97]⟩] w fun e w'=>e=.returned (.pointer (some ⟨E,0,none⟩))∧Below w.heap.size w w':=by
  have HP:Hid _:=place_one h hh g B E c v w hc hB h0 h1
  have HC:Hid _:=hc
  have HBB:Hid _:=hB
  clear hc hB h0 h1
  go_enter Tryz.func413,Tryz.ntmps413
  go_wp2_with fail
  refine (show Calls _ _ _ _ _ from HP.out).mono ?_
  rintro e w1 ⟨rfl,hb1⟩
  have HB1:Hid (Below w.heap.size w w1):=hb1
  have hc:=cell_on HC.out hb1
  obtain ⟨b0,b1,b2,b3,bf⟩:=row4 (keep_row HBB.out hb1)
  clear hb1
  go_wp2
  go_returns
  exact ⟨rfl,HB1.out⟩
set_option maxHeartbeats 1000000 in
set_option maxRecDepth 100000 in
theorem find_one (h:Int) (hh:bits .and .i64 h 3=1) (g B E c:Nat) (v:ByteArray) (w:World) (hc:w.cell? ⟨g,1,none⟩=some (.slice (some ⟨B,0,none⟩) 4 4)) (hB:w.heap[B]?=some (.cells (bcells (.slice (some ⟨E,0,none⟩) 1 c)) 539)) (h0:w.cell? ⟨E,0,none⟩=some (.string ⟨#[97]⟩)) (h1:w.cell? ⟨E,1,none⟩=some (.string v)):Calls Tryz.prog 386 #[.pointer (some ⟨g,0,none⟩),.int .i64 h,.string ⟨#[97]⟩] w fun e w'=>e=.returned (.pointer (some ⟨E,0,none⟩))∧Below w.heap.size w w':=by
  have HP:Hid _:=tfind_one h hh g B E c v w hc hB h0 h1
  clear hc hB h0 h1
  go_enter Tryz.func386,Tryz.ntmps386
  go_wp2_with fail
  refine (show Calls _ _ _ _ _ from HP.out).mono ?_
  rintro e w1 ⟨rfl,hb1⟩
  have HB1:Hid (Below w.heap.size w w1):=hb1
  clear hb1
  go_wp2
  go_returns
  exact ⟨rfl,HB1.out⟩
end Go.Proofs.YtiefeeoellagnaaGreatDoor.S8
namespace Go.Proofs.YtiefeeoellagnaaGreatDoor.S8
open Go.RowKit
set_option linter.unusedVariables false
theorem infoE:(Tryz.prog.info? 518).map (fun i=>(i.zero,i.size,i.bytes))=some (some (.agg #[.string ⟨#[]⟩,.string ⟨#[]⟩]),2,32):=by kernel_rfl
theorem info_parts {P:Program} {t:TypeId} {z:Value} {s b:Nat} (h:(P.info? t).map (fun i=>(i.zero,i.size,i.bytes))=some (some z,s,b)):∃ i,P.info? t=some i∧i.zero=some z∧i.size=s∧i.bytes=b:=by
  obtain ⟨i,hi,hz⟩:=Option.map_eq_some_iff.1 h
  simp only [Prod.mk.injEq] at hz
  exact ⟨i,hi,hz.1,hz.2.1,hz.2.2⟩
theorem row2 {w:World} {g T:Nat} {v0 v1:Value} (h:w.heap[g]?=some (.cells #[v0,v1] T)) :
    w.cell? ⟨g,0,none⟩=some v0∧w.cell? ⟨g,1,none⟩=some v1∧∀ j,w.frozen? ⟨g,j,none⟩=false:=by
  refine ⟨?_,?_,fun j=>frozen_of_row _ _ _ _ _ h⟩ <;> rw [cell_of_row _ _ _ _ _ _ h] <;> rfl
def One (W:World) (E c:Nat) (v:ByteArray):Prop:=∃ cur,W.heap[E]?=some (.cells cur 518)∧cur.size=c * 2∧1 ≤ c∧cur.toList.take 2=[.string ⟨#[97]⟩,.string v]
theorem One.cells {W:World} {E c:Nat} {v:ByteArray} (h:One W E c v):W.cell? ⟨E,0,none⟩=some (.string ⟨#[97]⟩)∧W.cell? ⟨E,1,none⟩=some (.string v)∧∀ j,W.frozen? ⟨E,j,none⟩=false:=by
  obtain ⟨cur,h1,h2,h3,h4⟩:=h
  have g0:cur[0]?=some (.string ⟨#[97]⟩):=by
    have:=congrArg (fun l=>l[0]?) h4
    simpa [List.getElem?_take] using this
  have g1:cur[1]?=some (.string v):=by
    have:=congrArg (fun l=>l[1]?) h4
    simpa [List.getElem?_take] using this
  refine ⟨?_,?_,fun j=>frozen_of_row _ _ _ _ _ h1⟩ <;> rw [cell_of_row _ _ _ _ _ _ h1] <;> assumption
theorem One.on {W W':World} {E c:Nat} {v:ByteArray} (h:One W E c v) (hb:Below W.heap.size W W'):One W' E c v:=by
  obtain ⟨cur,h1,h2⟩:=h; exact ⟨cur,keep_row h1 hb,h2⟩
theorem One.same {W W':World} {E c:Nat} {v:ByteArray} (h:One W E c v) (hb:W'.heap[E]?=W.heap[E]?):One W' E c v:=by
  obtain ⟨cur,h1,h2⟩:=h; exact ⟨cur,hb.trans h1,h2⟩
theorem One.of {W:World} {base:Nat} {r:Value} {v:ByteArray} (h:W.ownsRow base 518 2 r 1 [.string ⟨#[97]⟩,.string v]):∃ E c,r=.slice (some ⟨E,0,none⟩) 1 c∧base ≤ E∧One W E c v:=by
  obtain ⟨_,⟨_,h2⟩ | ⟨g,cap,cur,h1,hb,hg,q1,q2,q3,q4⟩⟩:=h
  · omega
  · exact ⟨g,cap,h1,hb,cur,hg,q3,q1,q4⟩
set_option maxHeartbeats 1000000 in
set_option maxRecDepth 100000 in
theorem ins_nil (X:Nat) (v:ByteArray) (w:World) (hX:w.heap[X]?=some (.cells #[.string ⟨#[97]⟩,.string v] 518)):Calls Tryz.prog 421 #[.slice none 0 0,.int .i64 0,.slice (some ⟨X,0,none⟩) 1 1] w fun e w'=>(∃ E c,e=.returned (.slice (some ⟨E,0,none⟩) 1 c)∧w.heap.size ≤ E∧One w' E c v)∧Below w.heap.size w w':=by
  obtain ⟨i0,hi,hz0,hz1,hz2⟩:=info_parts infoE
  obtain ⟨x0,x1,xf⟩:=row2 hX
  have HO:Hid (w.ownsRow w.heap.size 518 2 (.slice none 0 0) 0 []):=⟨rfl,Or.inl ⟨rfl,rfl⟩⟩
  have HN:Hid (∀ j u,[Value.string ⟨#[97]⟩,.string v][j]?=some u → w.cell? ((⟨X,0,none⟩:Addr).add j)=some u):=by
    intro j u hj
    match j,hj with
    | 0,hj=>simp at hj; subst hj; simpa [Addr.add] using x0
    | 1,hj=>simp at hj; subst hj; simpa [Addr.add] using x1
  clear hX
  go_enter Tryz.func421,Tryz.ntmps421
  go_upto_region 7 with fail
  go_wp2_with (at_builtin; go_must (refine wpList_append_own _ rfl _ _ 539 rfl w.heap.size 518 i0 (.agg #[.string ⟨#[]⟩,.string ⟨#[]⟩]) 2 32 Tryz.underlying539 hi hz0 hz1 hz2 rfl (by decide) _ _ _ rfl HO.out ⟨X,0,none⟩ 1 1 [.string ⟨#[97]⟩,.string v] rfl rfl HN.out ?t1 ?t2 ?t3 (Nat.le_refl _) ?_))
  case t1=>intro u hu; simp at hu; rcases hu with rfl | rfl <;> rfl
  case t2=>unfold maxLen; omega
  case t3=>omega
  intro v' w1 hown' hgrow hiff
  have HB:Hid (Below w.heap.size w w1):=(Below.refl _ w).grown hgrow (Nat.le_refl _) (fun k hk=>by cases hk)
  obtain ⟨E,c,rfl,hE,hOne⟩:=One.of hown'
  have HE:Hid _:=hE
  have HONE:Hid _:=hOne
  clear hown' hgrow hiff hE hOne
  go_wp2
  go_returns
  exact ⟨⟨E,c,rfl,HE.out,HONE.out⟩,HB.out⟩
end Go.Proofs.YtiefeeoellagnaaGreatDoor.S8
namespace Go.Proofs.YtiefeeoellagnaaGreatDoor.S8
open Go.RowKit
set_option linter.unusedVariables false
set_option maxHeartbeats 2000000 in
set_option maxRecDepth 100000 in
theorem add_new (h:Int) (hh:bits .and .i64 h 3=1) (g B:Nat) (v:ByteArray) (w:World) (hg:w.heap[g]?=some (.cells (dcells (some ⟨B,0,none⟩) 4 4 0) 487)) (hB:w.heap[B]?=some (.cells (bcells (.slice none 0 0)) 539)) :
    Calls Tryz.prog 390 #[.pointer (some ⟨g,1,none⟩),.int .i64 h,.agg #[.string ⟨#[97]⟩,.string v]] w fun e w'=>e=.returned (.tuple #[])∧∃ E c,w.heap.size ≤ E∧w'.heap[g]?=some (.cells (dcells (some ⟨B,0,none⟩) 4 4 1) 487)∧w'.heap[B]?=some (.cells (bcells (.slice (some ⟨E,0,none⟩) 1 c)) 539)∧One w' E c v∧Md g B w w':=by
  have HGB:Hid (g ≠ B):=fun e=>by subst e; rw [hg] at hB; simp [dcells,bcells] at hB
  have HPL:Hid (∀ W,Below w.heap.size w W → Calls Tryz.prog 420 #[.pointer (some ⟨g,1,none⟩),.int .i64 h,.string ⟨#[97]⟩] W fun e w'=>e=.returned (.tuple #[.int .i64 1,.int .i64 0,.bool false])∧w'=W):=fun W hW=>place_new h hh g B W (row6 (keep_row hg hW)).2.1 (keep_row hB hW)
  have HIN:Hid _:=ins_nil
  have HG:Hid _:=hg
  have HB:Hid _:=hB
  have HX:Hid _:=one_alloc w (.cells #[.string ⟨#[97]⟩,.string v] 518)
  obtain ⟨W0,hW0⟩:∃ W0,W0=w.alloc (.cells #[.string ⟨#[97]⟩,.string v] 518):=⟨_,rfl⟩
  have HBL:Hid (Below w.heap.size w W0):=by rw [hW0]; exact (Below.refl _ w).alloc (Nat.le_refl _) _
  rw [← hW0] at HX
  clear hg hB
  go_enter Tryz.func390,Tryz.ntmps390
  go_upto_region 1 with fail
  rw [← hW0]
  clear hW0
  have HG1:Hid _:=keep_row HG.out HBL.out
  have HB1:Hid _:=keep_row HB.out HBL.out
  obtain ⟨c0,c1,c2,c3,c4,c5,cf⟩:=row6 HG1.out
  obtain ⟨b1,b2,b3,b4,bf⟩:=row4 HB1.out
  obtain ⟨x0,x1,xf⟩:=row2 HX.out
  go_wp2_with fail
  refine (show Calls _ _ _ _ _ from HPL.out _ HBL.out).mono ?_
  rintro e w1 ⟨rfl,rfl⟩
  go_upto_region 2 with fail
  have HT:Hid (Calls Tryz.prog 421 #[.slice none 0 0,.int .i64 0,.slice (some ⟨w1.heap.size,0,none⟩) 1 1] (w1.alloc (.cells #[.string ⟨#[97]⟩,.string v] 518)).drew fun e w'=>∃ E c,e=.returned (.slice (some ⟨E,0,none⟩) 1 c)∧w1.heap.size ≤ E∧One w' E c v∧Below w1.heap.size w1 w'):=by
    have h1:=ins_nil w1.heap.size v (w1.alloc (.cells #[.string ⟨#[97]⟩,.string v] 518)).drew (one_alloc w1 _)
    refine Calls.mono h1 ?_
    rintro e w2 ⟨⟨E,c,rfl,hE,hO⟩,hb⟩
    have hbb:Below w1.heap.size w1 w2:=bel_to (((Below.refl _ w1).alloc (Nat.le_refl _) _).drew) hb (Nat.le_refl _)
    exact ⟨E,c,rfl,by have:=World.size_alloc w1 (.cells #[.string ⟨#[97]⟩,.string v] 518); have h3:(w1.alloc (.cells #[.string ⟨#[97]⟩,.string v] 518)).heap.size ≤ E:=hE; omega,hO,hbb⟩
  go_cut [6] from 18 to 34 (fun sv wx=>sv=.int .i64 1∧∃ E c,w1.heap.size ≤ E∧wx.heap[g]?=some (.cells (dcells (some ⟨B,0,none⟩) 4 4 0) 487)∧wx.heap[B]?=some (.cells (bcells (.slice (some ⟨E,0,none⟩) 1 c)) 539)∧One wx E c v∧Md g B w wx)
  case first =>
    have hba:Below w1.heap.size w1 (w1.alloc (.cells #[.string ⟨#[97]⟩,.string v] 518)):=(Below.refl _ w1).alloc (Nat.le_refl _) _
    obtain ⟨p0,p1,p2,p3,p4,p5,pf⟩:=row6 (keep_row HG1.out hba)
    obtain ⟨q1,q2,q3,q4,qf⟩:=row4 (keep_row HB1.out hba)
    obtain ⟨y0,y1,yf⟩:=row2 (keep_row HX.out hba)
    clear hba
    go_region_with (go_at_call 421; refine (show Calls _ _ _ _ _ from HT.out).mono ?_; rintro e w2 ⟨E,c,rfl,hE,hO,hbb⟩; obtain ⟨d0,d1,d2,d3,d4,d5,df⟩:=row6 (keep_row HG1.out hbb); obtain ⟨e1,e2,e3,e4,ef⟩:=row4 (keep_row HB1.out hbb))
    all_goals
      have hgl:=row_lt HG1.out
      have hBl:=row_lt HB1.out
      have hr1:=keep_row HG1.out hbb
      have hr2:=keep_row HB1.out hbb
      go_wp2_with fail
      go_meet
      refine ⟨rfl,E,c,hE,?_,?_,?_,?_⟩
      · rw [heap_setCell_other _ _ _ _ HGB.out]; exact hr1
      · rw [heap_setCell_same _ _ _ _ _ _ hr2]; rfl
      · exact hO.same (heap_setCell_other _ _ _ _ (by show E ≠ B; omega))
      · exact ((Md.of HBL.out).trans (Md.of hbb)).setB _ _
  case rest =>
    obtain ⟨rfl,E,c,hE,hG3,hB3,hO3,hb3⟩:=hcut
    have HG3:Hid _:=hG3
    have HB3:Hid _:=hB3
    have HO3:Hid (One wc E c v):=hO3
    have HL3:Hid (Md g B w wc):=hb3
    have HE:Hid (w1.heap.size ≤ E):=hE
    clear c0 c1 c2 c3 c4 c5 cf b1 b2 b3 b4 bf x0 x1 xf hG3 hB3 hO3 hb3 hE
    obtain ⟨c0,c1,c2,c3,c4,c5,cf⟩:=row6 HG3.out
    go_wp2
    go_returns
    have hgl:=row_lt HG1.out
    have hEs:=HE.out
    have hw1:=HBL.out.size
    refine ⟨rfl,E,c,by omega,?_,?_,?_,?_⟩
    · rw [heap_setCell_same _ _ _ _ _ _ HG3.out]; rfl
    · rw [heap_setCell_other _ _ _ _ (Ne.symm HGB.out)]; exact HB3.out
    · exact HO3.out.same (heap_setCell_other _ _ _ _ (by show E ≠ g; omega))
    · exact HL3.out.setG _ _
end Go.Proofs.YtiefeeoellagnaaGreatDoor.S8
