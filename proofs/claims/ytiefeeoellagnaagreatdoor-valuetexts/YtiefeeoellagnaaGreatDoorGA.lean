import Derived.Test.YtiefeeoellagnaaGreatDoorProg
import Derived.WalkKit
import Derived.WalkSpells
import Derived.WalkLawsBesides
import Derived.Handy
import Derived.Laws.BytesArg
import Derived.Laws.IdiomStrings
import Derived.Lib.AppendStr
import Derived.Deep.QuietTactic
import Derived.BigQuiet
import Derived.Lib.AppendZerosOnto
import Derived.RangeFuncOwn
import Derived.Lib.ItoaMem
import Derived.Test.YtiefeeoellagnaaGreatDoorFH
import Derived.Deep.RegionHeld3
import Derived.Deep.Cut
import Derived.Deep.RegionWith
import Derived.Test.YtiefeeoellagnaaGreatDoorFC
namespace Go.Proofs.YtiefeeoellagnaaGreatDoor.V
open Go.RowKit
set_option linter.unusedVariables false

theorem below_dn {B:Nat} {a w:World} (h:Below B a w) (n:Nat):Below B a (w.drewN n):=h.trans ⟨rfl,rfl,rfl,Nat.le_refl _,fun _ _=>rfl⟩
theorem at_list (s:ByteArray) (k:Nat) (h:k < s.size):s.data.toList[k]?=some s[k]:=by
  rw [List.getElem?_eq_getElem (by simpa using h)]; rfl
theorem list_len (s:ByteArray):s.data.toList.length=s.size:=by show _=s.data.size; simp
theorem str_same {a b:ByteArray} (h:a.data.toList=b.data.toList):(a.toList == b.toList)=true:=by
  rw [ByteArray.toList_eq,ByteArray.toList_eq,h]; simp
theorem str_other {a b:ByteArray} (h:a.data.toList ≠ b.data.toList):(a.toList == b.toList)=false:=by
  rw [ByteArray.toList_eq,ByteArray.toList_eq]; simpa using h
def strB (l:List UInt8):ByteArray:=⟨l.toArray⟩
def bcells (l:List UInt8):List Value:=l.map fun b=>Value.int .u8 (b.toNat:Int)
theorem row_lt {w:World} {b:Nat} {o:Obj} (h:w.heap[b]?=some o):b < w.heap.size:=by
  rcases Nat.lt_or_ge b w.heap.size with h' | h'
  · exact h'
  · rw [Array.getElem?_eq_none h'] at h; cases h
theorem own_keep {w w':World} {base e size:Nat} {v:Value} {n:Nat} {xs:List Value} (h:w.ownsRow base e size v n xs) (hk:∀ k,base ≤ k → k < w.heap.size → w'.heap[k]?=w.heap[k]?):w'.ownsRow base e size v n xs:=by
  refine ⟨h.1,?_⟩
  rcases h.2 with h1 | ⟨g,cap,cur,hv,hb,hg,r⟩
  · exact Or.inl h1
  · exact Or.inr ⟨g,cap,cur,hv,hb,by rw [hk g hb (row_lt hg)]; exact hg,r⟩
end Go.Proofs.YtiefeeoellagnaaGreatDoor.V
namespace Go.Proofs.YtiefeeoellagnaaGreatDoor.V
open Go.RowKit
set_option linter.unusedVariables false
structure Only (w w':World) (g:Nat):Prop where
  os:w'.os=w.os
  tape:w'.tape=w.tape
  output:w'.output=w.output
  size:w'.heap.size=w.heap.size
  other:∀ k,k ≠ g → w'.heap[k]?=w.heap[k]?
theorem Only.refl (w:World) (g:Nat):Only w w g:=⟨rfl,rfl,rfl,rfl,fun _ _=>rfl⟩
theorem Only.trans {w w1 w2:World} {g:Nat} (h:Only w w1 g) (h':Only w1 w2 g):Only w w2 g:=
  ⟨h'.os.trans h.os,h'.tape.trans h.tape,h'.output.trans h.output,h'.size.trans h.size,fun k hk=>(h'.other k hk).trans (h.other k hk)⟩
theorem Only.below {w w':World} {g B:Nat} (h:Only w w' g) (hg:B ≤ g):Below B w w':=
  ⟨h.os,h.tape,h.output,by rw [h.size]; exact Nat.le_refl _,fun k hk=>h.other k (by omega)⟩
theorem Only.set {w w':World} {g:Nat} (h:Only w w' g) (i:Nat) (v:Value):Only w (w'.setCell ⟨g,i,none⟩ v) g:=
  h.trans ⟨rfl,rfl,rfl,by simp,fun k hk=>heap_setCell_other _ _ _ _ hk⟩
theorem one_alloc (w:World) (A:Obj):(w.alloc A).heap[w.heap.size]?=some A:=by
  show (w.heap.push A)[w.heap.size]?=some A
  rw [Array.getElem?_push,if_pos rfl]
theorem heap_set3 (w:World) (g T:Nat) (a b c v0 v1 v2:Value) (h:w.heap[g]?=some (.cells #[a,b,c] T)) :
    (((w.setCell ⟨g,0,none⟩ v0).setCell ⟨g,1,none⟩ v1).setCell ⟨g,2,none⟩ v2).heap[g]?=some (.cells #[v0,v1,v2] T)∧Only w (((w.setCell ⟨g,0,none⟩ v0).setCell ⟨g,1,none⟩ v1).setCell ⟨g,2,none⟩ v2) g:=by
  refine ⟨?_,(((Only.refl w g).set _ _).set _ _).set _ _⟩
  rw [heap_setCell_same _ _ _ _ _ _ (heap_setCell_same _ _ _ _ _ _ (heap_setCell_same _ _ _ _ _ _ h))]; rfl
theorem row3 {w:World} {g T:Nat} {v0 v1 v2:Value} (h:w.heap[g]?=some (.cells #[v0,v1,v2] T)) :
    w.cell? ⟨g,0,none⟩=some v0∧w.cell? ⟨g,1,none⟩=some v1∧w.cell? ⟨g,2,none⟩=some v2∧∀ j,w.frozen? ⟨g,j,none⟩=false:=by
  refine ⟨?_,?_,?_,fun j=>frozen_of_row _ _ _ _ _ h⟩ <;> rw [cell_of_row _ _ _ _ _ _ h] <;> rfl
theorem lt_of_cell {w:World} {a:Addr} {v:Value} (h:w.cell? a=some v):a.block < w.heap.size:=by
  obtain ⟨o,ho,_⟩:=cells_of_cell h; exact row_lt ho
theorem cell_on {w w':World} {a:Addr} {v:Value} (h:w.cell? a=some v) (hb:Below w.heap.size w w'):w'.cell? a=some v:=
  (hb.cell (p:=a) (lt_of_cell h)).trans h
theorem keep_row {w w':World} {g:Nat} {o:Obj} (h:w.heap[g]?=some o) (hb:Below w.heap.size w w'):w'.heap[g]?=some o:=(hb.block g (row_lt h)).trans h
theorem bel_to {B:Nat} {w w1 w2:World} (h1:Below B w w1) (h2:Below w1.heap.size w1 w2) (hB:B ≤ w.heap.size):Below B w w2:=h1.trans (h2.mono (Nat.le_trans hB h1.size))
set_option linter.unusedVariables false
theorem prow2 {w:World} {g T:Nat} {v0 v1:Value} (h:w.heap[g]?=some (.cells #[v0,v1] T)) :
    w.cell? ⟨g,0,none⟩=some v0∧w.cell? ⟨g,1,none⟩=some v1∧∀ j,w.frozen? ⟨g,j,none⟩=false:=by
  refine ⟨?_,?_,fun j=>frozen_of_row _ _ _ _ _ h⟩ <;> rw [cell_of_row _ _ _ _ _ _ h] <;> rfl
theorem two_rows {w w1:World} {a b:Obj} (h:Below ((w.alloc a).alloc b).heap.size ((w.alloc a).alloc b) w1):Below w.heap.size w w1∧w1.heap[w.heap.size]?=some a∧w1.heap[w.heap.size + 1]?=some b:=by
  refine ⟨bel_to (((Below.refl _ w).alloc (Nat.le_refl _) _).alloc (by simp) _) h (Nat.le_refl _),keep_row (keep_row (one_alloc w a) ((Below.refl _ _).alloc (Nat.le_refl _) _)) h,?_⟩
  have:=one_alloc (w.alloc a) b
  rw [World.size_alloc] at this
  exact keep_row this h
theorem cell_a1 {w:World} {a:Addr} {v:Value} (h:w.cell? a=some v) (o:Obj):(w.alloc o).cell? a=some v:=cell_on h ((Below.refl _ _).alloc (Nat.le_refl _) _)
set_option linter.unusedVariables false
set_option linter.unusedSimpArgs false
theorem own_on {W W':World} {base T k n:Nat} {v:Value} {xs:List Value} (h:W.ownsRow base T k v n xs) (hb:Below W.heap.size W W'):W'.ownsRow base T k v n xs:=by
  obtain ⟨q1,q | ⟨gg,cap,cur,q2,q3,q4,q5⟩⟩:=h
  · exact ⟨q1,Or.inl q⟩
  · exact ⟨q1,Or.inr ⟨gg,cap,cur,q2,q3,keep_row q4 hb,q5⟩⟩
set_option linter.unusedVariables false
theorem bytes_ext {a b:ByteArray} (h:a.data.toList=b.data.toList):a=b:=WideShapes.bytes_inj h
def SRow (w:World) (v:Value) (vs:List ByteArray):Prop:=
  (vs=[]∧∃ p c,v=.slice p 0 c) ∨ (∃ g o c,v=.slice (some ⟨g,o,none⟩) vs.length c∧∀ j (h:j < vs.length),w.cell? ⟨g,o + j,none⟩=some (.string vs[j]))
theorem SRow.on {w w':World} {v:Value} {vs:List ByteArray} (h:SRow w v vs) (hb:Below w.heap.size w w'):SRow w' v vs:=by
  rcases h with h | ⟨g,o,c,h1,h2⟩
  · exact Or.inl h
  · exact Or.inr ⟨g,o,c,h1,fun j hj=>cell_on (h2 j hj) hb⟩
theorem SRow.form {w:World} {v:Value} {vs:List ByteArray} (h:SRow w v vs):∃ p c,v=.slice p vs.length c:=by
  rcases h with ⟨rfl,p,c,h⟩ | ⟨g,o,c,h1,_⟩
  · exact ⟨p,c,h⟩
  · exact ⟨_,_,h1⟩
theorem SRow.cell {w:World} {P:Option Addr} {n c:Nat} {vs:List ByteArray} (h:SRow w (.slice P n c) vs) (j:Nat) (hj:j < vs.length):∃ g o,P=some ⟨g,o,none⟩∧w.cell? ⟨g,o + j,none⟩=some (.string vs[j]):=by
  rcases h with ⟨he,_⟩ | ⟨g,o,c',h1,h2⟩
  · rw [he] at hj; simp at hj
  · injection h1 with h1 _ _
    exact ⟨g,o,h1,h2 j hj⟩
end Go.Proofs.YtiefeeoellagnaaGreatDoor.V
-- import Derived.Test.YtiefeeoellagnaaGreatDoorS5IApi1
namespace Go.Proofs.YtiefeeoellagnaaGreatDoor.V
open Go.RowKit
set_option linter.unusedVariables false
set_option linter.unusedSimpArgs false
structure TH where
  (a b c d e f g h i:Int)
def thV (t:TH):Value:=.agg #[.int .i64 t.a,.int .i64 t.b,.int .i64 t.c,.int .i64 t.d,.int .i64 t.e,.int .i64 t.f,.int .i64 t.g,.int .i64 t.h,.int .i64 t.i]
def inB (n:Int):Bool:=decide (0 ≤ n) && decide (n ≤ 4096)
def okT (t:TH):Bool:=decide (1 ≤ t.a) && decide (0 ≤ t.c) && decide (t.c ≤ 1048576) && inB t.a && inB t.b && inB t.d && inB t.e && inB t.f && inB t.g && inB t.h && inB t.i
set_option maxHeartbeats 4000000 in
set_option maxRecDepth 20000 in
theorem Check_any (t:TH) (w:World):Calls Tryz.prog 12 #[thV t] w fun e w'=>e=.returned (.int .i64 (if okT t=true then 0 else 1))∧Below w.heap.size w w':=by
  obtain ⟨a,b,c,d,e,f,g,h,i⟩:=t
  obtain ⟨r,hr⟩:∃ r,(if okT ⟨a,b,c,d,e,f,g,h,i⟩=true then (0:Int) else 1)=r:=⟨_,rfl⟩
  rw [hr]
  have HR:Hid _:=hr
  clear hr
  unfold thV
  have ix0:∀ W:World,(Instr.index 127 (.agg #[.int .i64 a,.int .i64 b,.int .i64 d,.int .i64 e,.int .i64 f,.int .i64 g,.int .i64 h,.int .i64 i]) (.int .i64 0)).run Tryz.prog W=.ok (.int .i64 a) W:=fun W=>by kernel_rfl
  have ix1:∀ W:World,(Instr.index 127 (.agg #[.int .i64 a,.int .i64 b,.int .i64 d,.int .i64 e,.int .i64 f,.int .i64 g,.int .i64 h,.int .i64 i]) (.int .i64 1)).run Tryz.prog W=.ok (.int .i64 b) W:=fun W=>by kernel_rfl
  have ix2:∀ W:World,(Instr.index 127 (.agg #[.int .i64 a,.int .i64 b,.int .i64 d,.int .i64 e,.int .i64 f,.int .i64 g,.int .i64 h,.int .i64 i]) (.int .i64 2)).run Tryz.prog W=.ok (.int .i64 d) W:=fun W=>by kernel_rfl
  have ix3:∀ W:World,(Instr.index 127 (.agg #[.int .i64 a,.int .i64 b,.int .i64 d,.int .i64 e,.int .i64 f,.int .i64 g,.int .i64 h,.int .i64 i]) (.int .i64 3)).run Tryz.prog W=.ok (.int .i64 e) W:=fun W=>by kernel_rfl
  have ix4:∀ W:World,(Instr.index 127 (.agg #[.int .i64 a,.int .i64 b,.int .i64 d,.int .i64 e,.int .i64 f,.int .i64 g,.int .i64 h,.int .i64 i]) (.int .i64 4)).run Tryz.prog W=.ok (.int .i64 f) W:=fun W=>by kernel_rfl
  have ix5:∀ W:World,(Instr.index 127 (.agg #[.int .i64 a,.int .i64 b,.int .i64 d,.int .i64 e,.int .i64 f,.int .i64 g,.int .i64 h,.int .i64 i]) (.int .i64 5)).run Tryz.prog W=.ok (.int .i64 g) W:=fun W=>by kernel_rfl
  have ix6:∀ W:World,(Instr.index 127 (.agg #[.int .i64 a,.int .i64 b,.int .i64 d,.int .i64 e,.int .i64 f,.int .i64 g,.int .i64 h,.int .i64 i]) (.int .i64 6)).run Tryz.prog W=.ok (.int .i64 h) W:=fun W=>by kernel_rfl
  have ix7:∀ W:World,(Instr.index 127 (.agg #[.int .i64 a,.int .i64 b,.int .i64 d,.int .i64 e,.int .i64 f,.int .i64 g,.int .i64 h,.int .i64 i]) (.int .i64 7)).run Tryz.prog W=.ok (.int .i64 i) W:=fun W=>by kernel_rfl
  go_enter Tryz.func12,Tryz.ntmps12
  go_wp2
  all_goals (try go_rounds 9)
  all_goals (go_returns)
  all_goals (refine ⟨?_,by go_grown⟩)
  all_goals (rw [← HR.out]; clear HR; congr 2; split <;> simp_all [okT,inB] <;> omega)
end Go.Proofs.YtiefeeoellagnaaGreatDoor.V
namespace Go.Proofs.YtiefeeoellagnaaGreatDoor.V
open Go.RowKit
set_option linter.unusedVariables false
set_option linter.unusedSimpArgs false
def isC (m n s:Int) (p:ByteArray) (z x:Int):Obj:=.cells #[.int .i64 m,.int .i64 n,.int .i64 s,.string p,.int .i64 z,.int .i64 x] 136
set_option maxHeartbeats 4000000 in
set_option maxRecDepth 20000 in
theorem newIntSet_any (t:TH) (w:World):Calls Tryz.prog 14 #[thV t] w fun e w'=>∃ b,e=.returned (.pointer (some ⟨b,0,none⟩))∧w.heap.size ≤ b∧w'.heap[b]?=some (isC t.c t.d t.e (S5.strB (S5.IM.txt 2 [])) 0 0)∧Below w.heap.size w w':=by
  obtain ⟨a,b,c,d,e,f,g,h,i⟩:=t
  unfold thV
  simp only []
  obtain ⟨p,hp⟩:∃ p,S5.strB (S5.IM.txt 2 [])=p:=⟨_,rfl⟩
  have HN:Hid (∀ W,Calls Tryz.prog 64 #[] W fun e w'=>e=.returned (.string p)∧Below W.heap.size W w'):=fun W=>by rw [← hp]; exact S5.new_any W
  rw [hp]
  clear hp
  obtain ⟨W1,hW1⟩:∃ W,W=w.alloc (.cells #[.int .i64 a,.int .i64 b,.int .i64 c,.int .i64 d,.int .i64 e,.int .i64 f,.int .i64 g,.int .i64 h,.int .i64 i] 23):=⟨_,rfl⟩
  obtain ⟨r,hr⟩:∃ r,w.heap.size=r:=⟨_,rfl⟩
  have HA:Hid (W1.heap[r]?=some (.cells #[.int .i64 a,.int .i64 b,.int .i64 c,.int .i64 d,.int .i64 e,.int .i64 f,.int .i64 g,.int .i64 h,.int .i64 i] 23)):=by rw [hW1,← hr]; exact one_alloc _ _
  have HB:Hid (Below w.heap.size w W1):=by rw [hW1]; exact (Below.refl _ _).alloc (Nat.le_refl _) _
  have HKS:Hid (∀ W,Below W1.heap.size W1 W → W.cell? ⟨r,2,none⟩=some (.int .i64 c)∧W.cell? ⟨r,3,none⟩=some (.int .i64 d)∧W.cell? ⟨r,4,none⟩=some (.int .i64 e)):=fun W hW=>by
    refine ⟨?_,?_,?_⟩ <;> rw [cell_of_row _ _ _ _ _ _ (keep_row HA.out hW)] <;> rfl
  have hS0:=HKS.out W1 (Below.refl _ _)
  have hSd:=HKS.out W1.drew (Below.refl _ _).drew
  go_enter Tryz.func14,Tryz.ntmps14
  go_upto_region 1 with fail
  rw [← hW1]
  clear hW1 
  go_region_held3 (fun W:World=>W.cell? ⟨r,2,none⟩=some (.int .i64 c)∧W.cell? ⟨r,3,none⟩=some (.int .i64 d)∧W.cell? ⟨r,4,none⟩=some (.int .i64 e))
    (first | with_reducible exact hS0 | with_reducible exact hSd | with_reducible exact hS4 | exact ⟨cell_a1 hS4.1 _,cell_a1 hS4.2.1 _,cell_a1 hS4.2.2 _⟩)
    (first | (go_at_call 64; refine (HN.out _).mono ?_; rintro e w6 ⟨rfl,hb6⟩; have hx6:Below W1.heap.size W1 w6:=(Below.refl _ _).drew.trans hb6; have hS4:=HKS.out _ hx6))
  have HX:Hid (Below w.heap.size w w6):=HB.out.trans (hx6.mono HB.out.size)
  clear hS0 hSd hS4 hb6 hx6 hr
  go_wp2
  go_returns
  exact ⟨_,rfl,HX.out.size,one_alloc _ _,HX.out.alloc HX.out.size _⟩
end Go.Proofs.YtiefeeoellagnaaGreatDoor.V
namespace Go.Proofs.YtiefeeoellagnaaGreatDoor.V
open Go.RowKit
set_option linter.unusedVariables false
set_option linter.unusedSimpArgs false
def ixF (P:ByteArray → Bool) (vs:List ByteArray):Int:=if vs.any P then (vs.findIdx P:Nat) else -1
theorem ixF_none {P:ByteArray → Bool} {vs:List ByteArray} (h:∀ j (h:j < vs.length),P vs[j]=false):ixF P vs=-1:=by
  unfold ixF
  rw [if_neg]
  simp only [List.any_eq_true,not_exists,not_and]
  intro x hx
  obtain ⟨j,hj,rfl⟩:=List.getElem_of_mem hx
  rw [h j hj]; simp
theorem ixF_some {P:ByteArray → Bool} {vs:List ByteArray} {i:Nat} (hi:i < vs.length) (hp:P vs[i]=true) (h:∀ j (hj:j < vs.length),j < i → P vs[j]=false):ixF P vs=(i:Int):=by
  unfold ixF
  rw [if_pos (List.any_eq_true.2 ⟨vs[i],List.getElem_mem hi,hp⟩)]
  congr 1
  rw [List.findIdx_eq hi]
  exact ⟨hp,fun j hji=>h j (by omega) hji⟩
theorem ixF_ge (P:ByteArray → Bool) (vs:List ByteArray):decide (0 ≤ ixF P vs)=vs.any P:=by
  unfold ixF
  by_cases h:vs.any P=true
  · rw [if_pos h,h]; simp
  · rw [if_neg h]; simp only [Bool.not_eq_true] at h; rw [h]; decide
theorem enters_my {f:FuncId} {fn:Func} {c:Code} (hf:Tryz.prog.funcs[f]?=some fn) (hname:(fn.name == "runtime.NumGoroutine")=false) (hb:fn.body=some c):∀ args w,(callFunc f args).run Tryz.prog w=.ok (.enter f args) w:=by
  intro args w
  have h1:fn.name ≠ "runtime.NumGoroutine":=by simpa using hname
  simp [callFunc,hf,h1,hb,mark]
set_option maxHeartbeats 4000000 in
set_option maxRecDepth 20000 in
theorem IndexFunc_any (g:Nat) (cb:Array Value) (P:ByteArray → Bool) (v:Value) (vs:List ByteArray) (hl:vs.length ≤ 70368744177664) (w:World) (hv:SRow w v vs) (eg:∀ args w,(callFunc g args).run Tryz.prog w=.ok (.enter g args) w)
    (hg:∀ s,s ∈ vs → ∀ W',Below w.heap.size w W' → Calls Tryz.prog g (#[.string s] ++ cb) W' fun e w'=>e=.returned (.bool (P s))∧Below W'.heap.size W' w') :
    Calls Tryz.prog 199 #[v,.func (.func g) #[] cb] w fun e w'=>e=.returned (.int .i64 (ixF P vs))∧Below w.heap.size w w':=by
  obtain ⟨Q,c,rfl⟩:=hv.form
  have HV:Hid (SRow w (.slice Q vs.length c) vs):=hv
  have HG:Hid _:=hg
  clear hv hg
  go_enter Tryz.func199,Tryz.ntmps199
  go_wp2
  go_loopw [8] (fun ci wr=>Below w.heap.size w wr∧∃ i:Nat,i ≤ vs.length∧ci=.int .i64 (i:Int)∧∀ j (h:j < vs.length),j < i → P vs[j]=false) (fun ci _=>vs.length - (intOf ci).toNat)
  case atStart=>exact ⟨Below.refl _ _,0,by omega,rfl,fun j _ h=>absurd h (by omega)⟩
  case round =>
    obtain ⟨hwr,i,hi,rfl,hall⟩:=hrel
    have HWR:Hid (Below w.heap.size w wr):=hwr
    have HALL:Hid _:=hall
    clear hall hwr
    by_cases hlt:i < vs.length
    · obtain ⟨gb,o,hP,hc1⟩:=(HV.out.on HWR.out).cell i hlt
      have hz0:(0:Int) ≤ (i:Int):=by omega
      have hz1:(i:Int) < (vs.length:Int):=by omega
      subst hP
      have HC:Hid (Calls Tryz.prog g (#[.string vs[i]] ++ cb) wr fun e w'=>e=.returned (.bool (P vs[i]))∧Below wr.heap.size wr w'):=HG.out _ (List.getElem_mem hlt) _ HWR.out
      obtain ⟨X,hX⟩:∃ X,vs[i]=X:=⟨_,rfl⟩
      rw [hX] at hc1 HC
      have HX:Hid _:=hX
      clear hX
      go_wp2_with fail
      refine HC.out.mono ?_
      rintro e w6 ⟨rfl,hb6⟩
      have HB6:Hid (Below w.heap.size w w6):=HWR.out.trans (hb6.mono HWR.out.size)
      clear hb6
      obtain ⟨b,hb⟩:∃ b,P X=b:=⟨_,rfl⟩
      rw [hb]
      have HBB:Hid _:=hb
      clear hb
      cases b
      · go_wp2
        go_roundw
        case rel =>
          refine ⟨HB6.out,i + 1,hlt,rfl,fun j h hji=>?_⟩
          rcases Nat.lt_succ_iff_lt_or_eq.1 hji with h2 | rfl
          · exact HALL.out j h h2
          · rw [HX.out]; exact HBB.out
        case measure=>simp [intOf]; omega
      · have HE:Hid (ixF P vs=(i:Int)):=ixF_some hlt (by rw [HX.out]; exact HBB.out) HALL.out
        go_wp2
        go_ret
        rw [HE.out]
        exact ⟨rfl,HB6.out⟩
    · have he:i=vs.length:=by omega
      have HE:Hid (ixF P vs=-1):=ixF_none (fun j h=>HALL.out j h (by omega))
      subst he
      go_wp2
      go_ret
      rw [HE.out]
      exact ⟨rfl,HWR.out⟩
set_option maxRecDepth 20000 in
theorem ContainsFunc_any (g:Nat) (cb:Array Value) (P:ByteArray → Bool) (v:Value) (vs:List ByteArray) (hl:vs.length ≤ 70368744177664) (w:World) (hv:SRow w v vs) (eg:∀ args w,(callFunc g args).run Tryz.prog w=.ok (.enter g args) w)
    (hg:∀ s,s ∈ vs → ∀ W',Below w.heap.size w W' → Calls Tryz.prog g (#[.string s] ++ cb) W' fun e w'=>e=.returned (.bool (P s))∧Below W'.heap.size W' w') :
    Calls Tryz.prog 138 #[v,.func (.func g) #[] cb] w fun e w'=>e=.returned (.bool (vs.any P))∧Below w.heap.size w w':=by
  have HI:Hid _:=IndexFunc_any g cb P v vs hl w hv eg hg
  have HE:Hid (decide (0 ≤ ixF P vs)=vs.any P):=ixF_ge P vs
  clear hv hg eg
  go_enter Tryz.func138,Tryz.ntmps138
  go_wp2_with fail
  refine (show Calls _ _ _ _ _ from HI.out).mono ?_
  rintro e w6 ⟨rfl,hb6⟩
  have HB6:Hid _:=hb6
  clear hb6
  go_wp2
  go_ret
  rw [HE.out]
  exact ⟨rfl,HB6.out⟩
theorem isLong_any (s:ByteArray) (w:World):Calls Tryz.prog 76 #[.string s] w fun e w'=>e=.returned (.bool (decide (524288 < s.size)))∧Below w.heap.size w w':=by
  have HE:Hid (decide ((524288:Int) < (s.size:Int))=decide (524288 < s.size)):=by show _=_; rw [decide_eq_decide]; omega
  go_enter Tryz.func76,Tryz.ntmps76
  go_wp2
  go_ret
  rw [← HE.out]
  exact ⟨rfl,Below.refl _ _⟩
def longB (s:ByteArray):Bool:=decide (524288 < s.size)
theorem anyLong_any (v:Value) (vs:List ByteArray) (hl:vs.length ≤ 70368744177664) (w:World) (hv:SRow w v vs):Calls Tryz.prog 68 #[v] w fun e w'=>e=.returned (.bool (vs.any longB))∧Below w.heap.size w w':=by
  have HI:Hid _:=ContainsFunc_any 76 #[] longB v vs hl w hv (enters_my Tryz.func76 (by kernel_rfl) rfl) (fun s _ W' _=>isLong_any s W')
  clear hv
  go_enter Tryz.func68,Tryz.ntmps68
  go_wp2_with fail
  refine (show Calls _ _ _ _ _ from HI.out).mono ?_
  rintro e w6 ⟨rfl,hb6⟩
  have HB6:Hid _:=hb6
  clear hb6
  go_wp2
  go_ret
  exact ⟨rfl,HB6.out⟩
set_option maxHeartbeats 4000000 in
set_option maxRecDepth 20000 in
theorem weigh_any (v:Value) (vs:List ByteArray) (hl:vs.length ≤ 1048576) (hs:∀ s ∈ vs,s.size ≤ 524288) (w:World) (hv:SRow w v vs):Calls Tryz.prog 81 #[v] w fun e w'=>e=.returned (.int .i64 ((vs.map (·.size)).sum:Nat))∧Below w.heap.size w w':=by
  obtain ⟨Q,c,rfl⟩:=hv.form
  have HV:Hid (SRow w (.slice Q vs.length c) vs):=hv
  have HS:Hid _:=hs
  clear hv hs
  go_enter Tryz.func81,Tryz.ntmps81
  go_wp2
  go_loopw [3,8] (fun cs ci wr=>Below w.heap.size w wr∧∃ i:Nat,i ≤ vs.length∧ci=.int .i64 (i:Int)∧((vs.take i).map (·.size)).sum ≤ i * 524288∧cs=.int .i64 ((((vs.take i).map (·.size)).sum:Nat):Int)) (fun _ ci _=>vs.length - (intOf ci).toNat)
  case atStart=>exact ⟨Below.refl _ _,0,by omega,rfl,by simp,by simp⟩
  case round =>
    obtain ⟨hwr,i,hi,rfl,hsm,rfl⟩:=hrel
    have HWR:Hid (Below w.heap.size w wr):=hwr
    clear hwr
    by_cases hlt:i < vs.length
    · obtain ⟨gb,o,hP,hc1⟩:=(HV.out.on HWR.out).cell i hlt
      have hz0:(0:Int) ≤ (i:Int):=by omega
      have hz1:(i:Int) < (vs.length:Int):=by omega
      subst hP
      obtain ⟨X,hX⟩:∃ X,vs[i]=X:=⟨_,rfl⟩
      have hX5:X.size ≤ 524288:=by rw [← hX]; exact HS.out _ (List.getElem_mem hlt)
      have hs1:((vs.take (i + 1)).map (·.size)).sum=((vs.take i).map (·.size)).sum + X.size:=by
        rw [List.take_succ_eq_append_getElem hlt,List.map_append,List.sum_append,hX]; simp
      rw [hX] at hc1
      obtain ⟨S,hS⟩:∃ S,((vs.take i).map (·.size)).sum=S:=⟨_,rfl⟩
      rw [hS] at hs1 hsm
      rw [hS]
      have HS1:Hid _:=hs1
      clear hX hs1 hS
      go_wp2
      go_roundw
      case rel =>
        refine ⟨HWR.out,i + 1,hlt,rfl,?_,?_⟩
        · rw [HS1.out]; omega
        · rw [HS1.out]; congr 1
      case measure=>simp [intOf]; omega
    · have he:i=vs.length:=by omega
      subst he
      rw [List.take_length] at *
      go_wp2
      go_ret
      exact ⟨rfl,HWR.out⟩
end Go.Proofs.YtiefeeoellagnaaGreatDoor.V
namespace Go.Proofs.YtiefeeoellagnaaGreatDoor.V
open Go.RowKit S5.IM
set_option linter.unusedVariables false
set_option linter.unusedSimpArgs false
open S5.P (MakerAt Kept)
theorem maker_keep {B b:Nat} {W:Int} {l:List UInt8} {w w':World} (h:MakerAt B b W l w) (hb:Below w.heap.size w w'):MakerAt B b W l w':=by
  obtain ⟨h1,v,h2,h3,h4⟩:=h
  exact ⟨h1,v,keep_row h2 hb,own_on h3 hb,h4⟩
set_option maxHeartbeats 4000000 in
set_option maxRecDepth 100000 in
theorem putLow_any (B b:Nat) (W:Int) (l:List UInt8) (n:Int) (V:Nat) (h3:W3 V) (w:World) (h:MakerAt B b W l w) (hlen:l.length ≤ 100000000) (hBw:B ≤ w.heap.size) :
    Calls Tryz.prog 516 #[.pointer (some ⟨b,0,none⟩),.int .i64 n,.int .i64 V] w fun e w'=>e=.returned (.tuple #[])∧(MakerAt B b W (l ++ leB V n) w'∧Below B w w'∧Kept b w w'):=by
  have HM:Hid (MakerAt B b W l w):=h
  obtain ⟨W1,hW1⟩:∃ W1,W1=w.alloc (.cells #[.int .u8 (n % 256),.int .u8 (n / 256 % 256),.int .u8 (n / 65536 % 256),.int .u8 (n / 16777216 % 256),.int .u8 (n / 4294967296 % 256),.int .u8 (n / 1099511627776 % 256),.int .u8 (n / 281474976710656 % 256),.int .u8 (n / 72057594037927936 % 256)] 299):=⟨_,rfl⟩
  have HW1:Hid (Below w.heap.size w W1):=by show Below _ _ _; rw [hW1]; exact (Below.refl _ _).alloc (Nat.le_refl _) _
  have HRW:Hid (W1.heap[w.heap.size]?=some (.cells (S5.bcells (leB 8 n)).toArray 299)):=by show _=_; rw [hW1,S5.word_cells n]; exact one_alloc _ _
  have HCL:Hid (∀ s:List UInt8,s <+: leB 8 n → ∀ j,(hj:j < s.length) → W1.cell? ⟨w.heap.size,j,none⟩=some (.int .u8 (s[j].toNat:Int))):=by
    intro s hs j hj
    rw [cell_of_row _ _ _ _ _ _ HRW.out]
    have h8:j < (leB 8 n).length:=Nat.lt_of_lt_of_le hj hs.length_le
    have e1:s[j]=(leB 8 n)[j]:=List.IsPrefix.getElem hs hj
    rw [e1]
    simp [S5.bcells,h8]
  have HWR:Hid (∀ s:List UInt8,s <+: leB 8 n → Calls Tryz.prog 197 #[.pointer (some ⟨b,0,none⟩),.slice (some ⟨w.heap.size,0,none⟩) s.length 8] W1 fun e w'=>e=.returned (.tuple #[.int .i64 s.length,.nilIface])∧(MakerAt B b W (l ++ s) w'∧Below B W1 w'∧Kept b W1 w')):=fun s hs =>
    S5.P.write_any B b W l w.heap.size 8 s W1 (maker_keep HM.out HW1.out) (by have:=hs.length_le; rw [leB_len] at this; omega) (Nat.le_trans hBw HW1.out.size) (HCL.out s hs)
  have HT:Hid (∀ V,W3 V → (leB 8 n).take V=leB V n):=fun V h=>S5.take_leB V n h
  have HP:Hid (∀ V,W3 V → leB V n <+: leB 8 n):=fun V h=>by rw [← HT.out V h]; exact List.take_prefix _ _
  have HKB:Hid (Below B w W1∧Kept b w W1):=⟨HW1.out.mono hBw,S5.P.Kept.below HW1.out⟩
  clear h
  have HSL:Hid (∀ W:World,(Instr.sliceAt 299 (.pointer (some ⟨w.heap.size,0,none⟩)) none (some (.int .i64 (V:Int))) none).run Tryz.prog W=.ok (.slice (some ⟨w.heap.size,0,none⟩) V 8) W):=by
    show ∀ _,_
    rcases h3 with rfl | rfl | rfl <;> intro W <;> kernel_rfl
  have HCW:Hid _:=HWR.out (leB V n) (HP.out V h3)
  rw [leB_len] at HCW
  clear HWR HP HT
  go_enter Tryz.func516,Tryz.ntmps516
  go_wp2
  go_rounds 9
  rw [HSL.out]
  go_wp2_with fail
  rw [← hW1]
  refine (show Calls _ _ _ _ _ from HCW.out).mono ?_
  rintro e w6 ⟨rfl,hm,hb,hk⟩
  have H6:Hid (MakerAt B b W (l ++ leB V n) w6∧Below B w w6∧Kept b w w6):=⟨hm,HKB.out.1.trans hb,HKB.out.2.trans hk⟩
  clear hm hb hk hW1
  go_wp2
  go_returns
  exact ⟨rfl,H6.out⟩
end Go.Proofs.YtiefeeoellagnaaGreatDoor.V
