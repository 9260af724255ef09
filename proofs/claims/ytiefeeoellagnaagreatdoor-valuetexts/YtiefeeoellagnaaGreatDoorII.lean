import Derived.Test.YtiefeeoellagnaaGreatDoorIB
import Derived.Deep.RegionHeld3
import Derived.Deep.Cut
import Derived.Test.YtiefeeoellagnaaGreatDoorFC
namespace Go.Proofs.YtiefeeoellagnaaGreatDoor.V
open Go.RowKit
set_option linter.unusedVariables false
set_option linter.unusedSimpArgs false
theorem st_nil (p q:Option Addr) (c d:Nat) (w:World):Calls Tryz.prog 34 #[.slice p 0 c,.slice q 0 d] w fun e w'=>e=.returned (.bool true)∧Below w.heap.size w w':=by
  go_enter Tryz.func34,Tryz.ntmps34
  go_wp2
  go_rounds 1
  go_wp2
  go_returns
  exact ⟨rfl,Below.refl _ _⟩
set_option maxHeartbeats 1000000 in
theorem st_one (g o h u:Nat) (c d:Nat) (X:ByteArray) (w:World) (h1:w.cell? ⟨g,o,none⟩=some (.string X)) (h2:w.cell? ⟨h,u,none⟩=some (.string X)):Calls Tryz.prog 34 #[.slice (some ⟨g,o,none⟩) 1 c,.slice (some ⟨h,u,none⟩) 1 d] w fun e w'=>e=.returned (.bool true)∧Below w.heap.size w w':=by
  have hx:(X.toList == X.toList)=true:=by simp
  go_enter Tryz.func34,Tryz.ntmps34
  go_wp2
  go_loopw [5] (fun ci wr=>(∃ k,wr=w.drewN k)∧(ci=.int .i64 0 ∨ ci=.int .i64 1)) (fun ci _=>1 - (intOf ci).toNat)
  case atStart=>exact ⟨⟨0,rfl⟩,Or.inl rfl⟩
  case round =>
    obtain ⟨⟨kk,hwr⟩,hci⟩:=hrel
    have HWR:Hid (wr=w.drewN kk):=hwr
    have k1:wr.cell? ⟨g,o,none⟩=some (.string X):=by rw [hwr]; exact h1
    have k2:wr.cell? ⟨h,u,none⟩=some (.string X):=by rw [hwr]; exact h2
    clear hwr
    rcases hci with rfl | rfl
    · go_wp2
      go_quiet (fail)
      go_wp2
      go_roundw
      case rel=>exact ⟨⟨kk + nq,by rw [HWR.out,World.drewN_drewN]⟩,Or.inr rfl⟩
      case measure=>simp [intOf]
    · go_wp2
      go_returns
      refine ⟨rfl,?_⟩
      rw [HWR.out]
      exact below_dn (Below.refl _ _) kk
theorem sf_nil (p q:Option Addr) (c d:Nat) (w:World):Calls Tryz.prog 61 #[.slice p 0 c,.slice q 0 d] w fun e w'=>e=.returned (.bool true)∧Below w.heap.size w w':=by
  go_enter Tryz.func61,Tryz.ntmps61
  go_wp2
  go_rounds 1
  go_wp2
  go_returns
  exact ⟨rfl,Below.refl _ _⟩
theorem ss_nil (p q:Option Addr) (c d:Nat) (w:World):Calls Tryz.prog 125 #[.slice p 0 c,.slice q 0 d] w fun e w'=>e=.returned (.bool true)∧Below w.heap.size w w':=by
  go_enter Tryz.func125,Tryz.ntmps125
  go_wp2
  go_rounds 1
  go_wp2
  go_returns
  exact ⟨rfl,Below.refl _ _⟩
theorem st_row (ts:List ByteArray) (ht:ts.length ≤ 1) (v1 v2:Value) (w:World) (h1:SRow w v1 ts) (h2:SRow w v2 ts):Calls Tryz.prog 34 #[v1,v2] w fun e w'=>e=.returned (.bool true)∧Below w.heap.size w w':=by
  rcases ts with _ | ⟨X,_ | ⟨Y,ts⟩⟩
  · obtain ⟨p,c,rfl⟩:=h1.form
    obtain ⟨q,d,rfl⟩:=h2.form
    exact st_nil p q c d w
  · obtain ⟨p,c,rfl⟩:=h1.form
    obtain ⟨q,d,rfl⟩:=h2.form
    obtain ⟨g,o,rfl,hc⟩:=h1.cell 0 (by simp)
    obtain ⟨h,u,rfl,hd⟩:=h2.cell 0 (by simp)
    exact st_one g o h u c d X w hc hd
  · simp at ht
theorem yl53 {ops:Array Oper} {S:World → Prop} {op:Oper} {a:Act} (C:Array Value) (r:Nat) (x:Operand) (ho:op.op=.load 42 x) (hx:a.eval x=.pointer (some ⟨r,0,none⟩)) (hS:∀ w,S w → w.rangeAt r 0 C.toList) (h25:C.size=25) (hw:Region.wanted op (yielded ops a.tmps)=true:=by rfl):YieldsIf Tryz.prog ops S op (.agg C) a:=by
  have:=yieldsIf_load_mid (P:=Tryz.prog) (ops:=ops) (S:=S) (a:=a) hw 42 x ho r 0 hx C.toList _ hS Tryz.underlying42 rfl (by rw [Array.length_toList,h25]; exact i53)
  rw [Array.toArray_toList] at this
  exact this
def Ans (f:Nat) (xs:Array Value) (v:Value) (w:World):Prop:=∀ W,Below w.heap.size w W → Calls Tryz.prog f xs W fun e w'=>e=.returned v∧Below W.heap.size W w'
def AnsT (f:Nat) (xs:Array Value) (ts:List ByteArray) (w:World):Prop:=∀ W,Below w.heap.size w W → Calls Tryz.prog f xs W fun e w'=>∃ v,e=.returned v∧SRow w' v ts∧Below W.heap.size W w'
end Go.Proofs.YtiefeeoellagnaaGreatDoor.V
namespace Go.Proofs.YtiefeeoellagnaaGreatDoor.V
open Go.RowKit
set_option linter.unusedVariables false
set_option linter.unusedSimpArgs false
def OPC (O:Array Value):Prop:=O.size=19∧O[0]?=some (.int .i64 13)∧O[1]?=some (.slice none 0 0)∧O[4]?=some (.int .i64 0)∧O[5]?=some (.int .i64 5)∧O[6]?=some (.bool false)∧O[7]?=some (.int .i64 0)∧O[8]?=some (.int .i64 0)∧O[9]?=some (.bool false)∧O[10]?=some (.int .i64 0)∧O[11]?=some (.int .i64 0)∧O[12]?=some (.bool false)∧O[13]?=some (.string ⟨#[]⟩)∧O[14]?=some (.int .i64 0)∧O[15]?=some (.bool false)∧O[16]?=some (.string ⟨#[]⟩)∧O[17]?=some (.int .i64 0)∧O[18]?=some (.bool false)
theorem i36:(Tryz.prog.info? 53).map (·.size)=some 19:=by kernel_rfl
def AnsV (f:Nat) (xs:Array Value) (mk:Option Addr → Nat → Value) (w:World):Prop:=∀ W,Below w.heap.size w W → Calls Tryz.prog f xs W fun e w'=>∃ q c,e=.returned (mk q c)∧Below W.heap.size W w'
theorem Ans.v {f:Nat} {xs:Array Value} {mk:Option Addr → Nat → Value} {w:World} (q:Option Addr) (c:Nat) (h:Ans f xs (mk q c) w):AnsV f xs mk w:=fun W hW=>(h W hW).mono (by
  rintro e w' ⟨rfl,hb⟩
  exact ⟨q,c,rfl,hb⟩)
theorem Ans.on {f:Nat} {xs:Array Value} {v:Value} {w w':World} (h:Ans f xs v w) (hb:Below w.heap.size w w'):Ans f xs v w':=fun W hW=>h W (hb.trans (hW.mono hb.size))
theorem AnsV.on {f:Nat} {xs:Array Value} {v:Option Addr → Nat → Value} {w w':World} (h:AnsV f xs v w) (hb:Below w.heap.size w w'):AnsV f xs v w':=fun W hW=>h W (hb.trans (hW.mono hb.size))
theorem ldR {ops:Array Oper} {rest:List Oper} {op:Oper} {a:Act} {w:World} {Q:Exit → Act → World → Prop} (C:Array Value) (r:Nat) (x:Operand) (hw:Region.wanted op (yielded ops a.tmps)=true) (ho:op.op=.load 42 x) (hx:a.eval x=.pointer (some ⟨r,0,none⟩)) (hc:w.rangeAt r 0 C.toList) (h25:C.size=25) (h:wpList Tryz.prog ops Q rest (a.put op.dst (.agg C)) w):wpList Tryz.prog ops Q (op :: rest) a w:=
  BigFrame.wpList_want hw fun K hK=>wp_load_mid _ x ho r 0 hx C.toList _ hc Tryz.underlying42 rfl (by rw [Array.length_toList,h25]; exact i53) (by rw [Array.toArray_toList]; exact hK _ _ h)
theorem ldO {ops:Array Oper} {rest:List Oper} {op:Oper} {a:Act} {w:World} {Q:Exit → Act → World → Prop} (C:Array Value) (r:Nat) (x:Operand) (hw:Region.wanted op (yielded ops a.tmps)=true) (ho:op.op=.load 53 x) (hx:a.eval x=.pointer (some ⟨r,0,none⟩)) (hc:w.rangeAt r 0 C.toList) (h19:C.size=19) (h:wpList Tryz.prog ops Q rest (a.put op.dst (.agg C)) w):wpList Tryz.prog ops Q (op :: rest) a w:=
  BigFrame.wpList_want hw fun K hK=>wp_load_mid _ x ho r 0 hx C.toList _ hc Tryz.underlying53 rfl (by rw [Array.length_toList,h19]; exact i36) (by rw [Array.toArray_toList]; exact hK _ _ h)
structure PA (bv:Nat) (eT eA eR eS eH eZ eG:Int) (w:World):Prop where
  qText:Ans 49 #[.pointer (some ⟨bv,0,none⟩)] (.tuple #[.string ⟨#[]⟩,.int .i64 eT]) w
  qAt:Ans 51 #[.pointer (some ⟨bv,0,none⟩),.int .i64 0] (.tuple #[.string ⟨#[]⟩,.int .i64 eA]) w
  qRange:AnsV 53 #[.pointer (some ⟨bv,0,none⟩),.int .i64 0,.int .i64 5] (fun q c=>.tuple #[.slice q 0 c,.int .i64 eR]) w
  qHas:Ans 21 #[.pointer (some ⟨bv,0,none⟩),.string ⟨#[]⟩] (.tuple #[.bool false,.int .i64 eS]) w
  qMembers:AnsV 56 #[.pointer (some ⟨bv,0,none⟩)] (fun q c=>.tuple #[.slice q 0 c,.int .i64 eS]) w
  qField:Ans 23 #[.pointer (some ⟨bv,0,none⟩),.string ⟨#[]⟩] (.tuple #[.string ⟨#[]⟩,.bool false,.int .i64 eH]) w
  qFields:AnsV 59 #[.pointer (some ⟨bv,0,none⟩)] (fun q c=>.tuple #[.slice q 0 c,.int .i64 eH]) w
  qScore:Ans 119 #[.pointer (some ⟨bv,0,none⟩),.string ⟨#[]⟩] (.tuple #[.int .i64 0,.bool false,.int .i64 eZ]) w
  qRank:Ans 121 #[.pointer (some ⟨bv,0,none⟩),.string ⟨#[]⟩,.bool false] (.tuple #[.int .i64 0,.bool false,.int .i64 eZ]) w
  qByRank:AnsV 123 #[.pointer (some ⟨bv,0,none⟩),.int .i64 0,.int .i64 5,.bool false] (fun q c=>.tuple #[.slice q 0 c,.int .i64 eZ]) w
  qByScore:AnsV 126 #[.pointer (some ⟨bv,0,none⟩),.agg #[.int .i64 0,.int .i64 0,.bool false],.agg #[.int .i64 0,.int .i64 0,.bool false],.bool false,.int .i64 0,.int .i64 5] (fun q c=>.tuple #[.slice q 0 c,.int .i64 eZ]) w
  qByLex:AnsV 128 #[.pointer (some ⟨bv,0,none⟩),.agg #[.string ⟨#[]⟩,.int .i64 0,.bool false],.agg #[.string ⟨#[]⟩,.int .i64 0,.bool false],.bool false,.int .i64 0,.int .i64 5] (fun q c=>.tuple #[.slice q 0 c,.int .i64 eZ]) w
  qScan:AnsV 130 #[.pointer (some ⟨bv,0,none⟩),.int .i64 0,.int .i64 5] (fun q c=>.tuple #[.slice q 0 c,.int .i64 0,.int .i64 eG]) w
structure DA (C:Array Value) (eT eA eR eS eH eZ eG:Int) (w:World):Prop where
  qText:Ans 50 #[.agg C] (.tuple #[.string ⟨#[]⟩,.int .i64 eT]) w
  qAt:Ans 52 #[.agg C,.int .i64 0] (.tuple #[.string ⟨#[]⟩,.int .i64 eA]) w
  qRange:AnsV 54 #[.agg C,.int .i64 0,.int .i64 5] (fun q c=>.tuple #[.slice q 0 c,.int .i64 eR]) w
  qHas:Ans 55 #[.agg C,.string ⟨#[]⟩] (.tuple #[.bool false,.int .i64 eS]) w
  qMembers:AnsV 57 #[.agg C] (fun q c=>.tuple #[.slice q 0 c,.int .i64 eS]) w
  qField:Ans 58 #[.agg C,.string ⟨#[]⟩] (.tuple #[.string ⟨#[]⟩,.bool false,.int .i64 eH]) w
  qFields:AnsV 60 #[.agg C] (fun q c=>.tuple #[.slice q 0 c,.int .i64 eH]) w
  qScore:Ans 120 #[.agg C,.string ⟨#[]⟩] (.tuple #[.int .i64 0,.bool false,.int .i64 eZ]) w
  qRank:Ans 122 #[.agg C,.string ⟨#[]⟩,.bool false] (.tuple #[.int .i64 0,.bool false,.int .i64 eZ]) w
  qByRank:AnsV 124 #[.agg C,.int .i64 0,.int .i64 5,.bool false] (fun q c=>.tuple #[.slice q 0 c,.int .i64 eZ]) w
  qByScore:AnsV 127 #[.agg C,.agg #[.int .i64 0,.int .i64 0,.bool false],.agg #[.int .i64 0,.int .i64 0,.bool false],.bool false,.int .i64 0,.int .i64 5] (fun q c=>.tuple #[.slice q 0 c,.int .i64 eZ]) w
  qByLex:AnsV 129 #[.agg C,.agg #[.string ⟨#[]⟩,.int .i64 0,.bool false],.agg #[.string ⟨#[]⟩,.int .i64 0,.bool false],.bool false,.int .i64 0,.int .i64 5] (fun q c=>.tuple #[.slice q 0 c,.int .i64 eZ]) w
  qScan:AnsV 131 #[.agg C,.int .i64 0,.int .i64 5] (fun q c=>.tuple #[.slice q 0 c,.int .i64 0,.int .i64 eG]) w
end Go.Proofs.YtiefeeoellagnaaGreatDoor.V
namespace Go.Proofs.YtiefeeoellagnaaGreatDoor.V
open Go.RowKit
set_option linter.unusedVariables false
set_option linter.unusedSimpArgs false
end Go.Proofs.YtiefeeoellagnaaGreatDoor.V
namespace Go.Proofs.YtiefeeoellagnaaGreatDoor.V
open Go.RowKit
open S6 (Laid Lay)
set_option linter.unusedVariables false
set_option linter.unusedSimpArgs false
def Emp (bv:Nat) (C:Array Value) (w:World):Prop:=∃ k a b en0 it en ts eT eA eR eS eH eZ eG,RV C k a b en0 it∧C.all (·.oneCell')=true∧List.length ts ≤ 1
 ∧Ans 42 #[.pointer (some ⟨bv,0,none⟩)] (.int .i64 k) w∧Ans 24 #[.pointer (some ⟨bv,0,none⟩)] (.string en) w∧Ans 25 #[.pointer (some ⟨bv,0,none⟩)] (.int .i64 0) w∧Ans 45 #[.pointer (some ⟨bv,0,none⟩)] (.int .i64 48) w∧AnsT 47 #[.pointer (some ⟨bv,0,none⟩)] ts w
 ∧Ans 43 #[.agg C] (.string en) w∧Ans 44 #[.agg C] (.int .i64 0) w∧Ans 46 #[.agg C] (.int .i64 48) w∧AnsT 48 #[.agg C] ts w
 ∧PA bv eT eA eR eS eH eZ eG w∧DA C eT eA eR eS eH eZ eG w
def zC:Array Value:=#[.int .i64 0,.int .i64 0,.int .i64 0,.int .i64 0,.int .i64 0,.int .i64 0,.int .i64 0,.int .i64 0,.int .i64 0,.int .i64 0,.string ⟨#[]⟩,.string ⟨#[]⟩,.int .i64 0,.int .i64 0,.slice none 0 0,.string ⟨#[]⟩,.slice none 0 0,.slice none 0 0,.slice none 0 0,.int .i64 0,.int .i64 0,.slice none 0 0,.int .i64 0,.slice none 0 0,.int .i64 0]
theorem alR {ops:Array Oper} {rest:List Oper} {op:Oper} {a:Act} {w:World} {Q:Exit → Act → World → Prop} (hg:op.guard=none) (ho:op.op=.alloc 42) (Z:Array Value) (hZ:Z=zC) (h:wpList Tryz.prog ops Q rest (a.put op.dst (.pointer (some ⟨w.heap.size,0,none⟩))) (w.alloc (.cells Z 42))):wpList Tryz.prog ops Q (op :: rest) a w:=by
  subst hZ
  refine wpList_val hg ?_ h
  unfold execOp
  rw [ho]
  kernel_rfl
theorem stR {ops:Array Oper} {rest:List Oper} {op:Oper} {a:Act} {w:World} {Q:Exit → Act → World → Prop} (hg:op.guard=none) (x y:Operand) (ho:op.op=.store 42 x y) (g:Nat) (C Z:Array Value) (hx:a.eval x=.pointer (some ⟨g,0,none⟩)) (hy:a.eval y=.agg C) (h25:C.size=25) (h1:C.all (·.oneCell')=true) (hZ:Z.size=25) (hr:w.heap[g]?=some (.cells Z 42)) (h:∀ W,W.heap[g]?=some (.cells C 42) → Mod g w W → wpList Tryz.prog ops Q rest (a.put op.dst undef) W):wpList Tryz.prog ops Q (op :: rest) a w:=by
  refine wpList_store_mid hg 42 x y ho g 0 C hx hy ?_ (by rw [h25]; exact i53) h1 ?_
  · intro j hj
    rw [h25] at hj
    refine ⟨?_,frozen_of_row _ _ _ _ _ hr⟩
    rw [cell_of_row _ _ _ _ _ _ hr]
    simp; omega
  have h3:=setCells_pre g 42 C.toList [] Z.toList w (by simp [h25,hZ]) (by simpa using hr)
  rw [List.length_nil] at h3
  simp only [List.nil_append,Array.toArray_toList] at h3
  exact h _ h3.1 (Mod.only h3.2)
end Go.Proofs.YtiefeeoellagnaaGreatDoor.V
namespace Go.Proofs.YtiefeeoellagnaaGreatDoor.V
open Go.RowKit S5.IM
open S6 (Laid Lay itoaB)
set_option linter.unusedVariables false
set_option linter.unusedSimpArgs false
end Go.Proofs.YtiefeeoellagnaaGreatDoor.V
namespace Go.Proofs.YtiefeeoellagnaaGreatDoor.V
open Go.RowKit S5.IM
open S6 (Laid Lay)
set_option linter.unusedVariables false
set_option linter.unusedSimpArgs false
def isE:ByteArray:=⟨#[105,110,116,115,101,116]⟩
def rZ:Array Value:=#[.int .i64 0,.int .i64 0,.int .i64 0,.int .i64 0,.int .i64 0,.int .i64 0,.int .i64 0,.int .i64 0,.int .i64 0,.int .i64 0,.string ⟨#[]⟩,.string ⟨#[]⟩,.int .i64 0,.int .i64 0,.slice none 0 0,.string ⟨#[]⟩,.slice none 0 0,.slice none 0 0,.slice none 0 0,.int .i64 0,.int .i64 0,.slice none 0 0,.int .i64 0,.slice none 0 0,.int .i64 0]
set_option maxHeartbeats 4000000 in
set_option maxRecDepth 20000 in
theorem rNew_badT (k:Int) (hk:1 ≤ k∧k ≤ 5) (t:TH) (ht:okT t=false) (w:World):Calls Tryz.prog 6 #[.int .i64 k,thV t] w fun e w'=>e=.returned (.tuple #[.agg rZ,.int .i64 1])∧Below w.heap.size w w':=by
  have HCK:Hid (∀ W,Calls Tryz.prog 17 #[thV t] W fun e w'=>e=.returned (.int .i64 1)∧Below W.heap.size W w'):=fun W=>by have:=rCheck_any t W; rw [ht] at this; exact this
  obtain ⟨a,b,c,d,e,f,g,h,i⟩:=t
  unfold thV rZ at *
  simp only [] at *
  clear ht
  have hk1:¬ k < 1:=by omega
  have hk5:¬ 5 < k:=by omega
  obtain ⟨ZZ,hZ⟩:∃ C:Array Value,C=#[.int .i64 0,.int .i64 0,.int .i64 0,.int .i64 0,.int .i64 0,.int .i64 0,.int .i64 0,.int .i64 0,.int .i64 0,.int .i64 0,.string ⟨#[]⟩,.string ⟨#[]⟩,.int .i64 0,.int .i64 0,.slice none 0 0,.string ⟨#[]⟩,.slice none 0 0,.slice none 0 0,.slice none 0 0,.int .i64 0,.int .i64 0,.slice none 0 0,.int .i64 0,.slice none 0 0,.int .i64 0]:=⟨_,rfl⟩
  have HZS:Hid (ZZ.size=25):=by show _=_; rw [hZ]; rfl
  have HZ1:Hid (ZZ.all (·.oneCell')=true):=by show _=_; rw [hZ]; kernel_rfl
  rw [← hZ]
  obtain ⟨W1,hW1⟩:∃ W1,W1=(w.alloc (.cells #[.int .i64 a,.int .i64 b,.int .i64 c,.int .i64 d,.int .i64 e,.int .i64 f,.int .i64 g,.int .i64 h,.int .i64 i] 23)).alloc (.cells #[.int .i64 0,.int .i64 0,.int .i64 0,.int .i64 0,.int .i64 0,.int .i64 0,.int .i64 0,.int .i64 0,.int .i64 0,.int .i64 0,.string ⟨#[]⟩,.string ⟨#[]⟩,.int .i64 0,.int .i64 0,.slice none 0 0,.string ⟨#[]⟩,.slice none 0 0,.slice none 0 0,.slice none 0 0,.int .i64 0,.int .i64 0,.slice none 0 0,.int .i64 0,.slice none 0 0,.int .i64 0] 42):=⟨_,rfl⟩
  obtain ⟨r,hr⟩:∃ r,w.heap.size=r:=⟨_,rfl⟩
  have HRR:Hid (w.heap.size=r):=hr
  have HA:Hid (Below w.heap.size w W1∧W1.heap[r]?=some (.cells #[.int .i64 a,.int .i64 b,.int .i64 c,.int .i64 d,.int .i64 e,.int .i64 f,.int .i64 g,.int .i64 h,.int .i64 i] 23)∧W1.heap[r + 1]?=some (.cells #[.int .i64 0,.int .i64 0,.int .i64 0,.int .i64 0,.int .i64 0,.int .i64 0,.int .i64 0,.int .i64 0,.int .i64 0,.int .i64 0,.string ⟨#[]⟩,.string ⟨#[]⟩,.int .i64 0,.int .i64 0,.slice none 0 0,.string ⟨#[]⟩,.slice none 0 0,.slice none 0 0,.slice none 0 0,.int .i64 0,.int .i64 0,.slice none 0 0,.int .i64 0,.slice none 0 0,.int .i64 0] 42)):=by
    rw [hW1,← hr]
    exact two_rows (Below.refl _ _)
  clear hr
  go_enter Tryz.func6,Tryz.ntmps6
  go_wp2_with fail
  rw [← hW1,HRR.out]
  refine (show Calls _ _ _ _ _ from HCK.out _).mono ?_
  rintro e w2 ⟨rfl,hb2⟩
  have HB2:Hid (Below w.heap.size w w2):=HA.out.1.trans (hb2.mono HA.out.1.size)
  have HT2:Hid _:=keep_row HA.out.2.1 hb2
  have HR2:Hid (w2.heap[r + 1]?=some (.cells ZZ 42)):=by show _=_; rw [hZ]; exact keep_row HA.out.2.2 hb2
  clear hb2 hW1
  have hi53:Hid ((Tryz.prog.info? 42).map (·.size)=some 25):=by show _=_; kernel_rfl
  go_upto_region 2 with fail
  refine wp_region_list ?_
  refine wpList_val rfl (v:=.agg ZZ) (w':=w2) (by rw [hZ]; kernel_rfl) ?_
  refine wpList_store_mid rfl 42 _ _ rfl (r + 1) 0 ZZ rfl rfl ?s4 (by rw [HZS.out]; exact hi53.out) HZ1.out ?_
  case s4 =>
    intro j hj
    rw [HZS.out] at hj
    have:=HZS.out
    refine ⟨?_,frozen_of_row _ _ _ _ _ HR2.out⟩
    rw [cell_of_row _ _ _ _ _ _ HR2.out]
    simp; omega
  have h4:=setCells_pre (r + 1) 42 ZZ.toList [] ZZ.toList w2 (by simp) (by simpa using HR2.out)
  rw [List.length_nil] at h4
  simp only [List.nil_append,Array.toArray_toList] at h4
  revert h4
  generalize w2.setCells (r + 1) 0 ZZ.toList=W4
  intro h4
  have HC4:Hid (W4.heap[r + 1]?=some (.cells ZZ 42)):=h4.1
  have HB4:Hid (Below w.heap.size w W4):=HB2.out.trans (h4.2.below (by rw [HRR.out]; omega))
  clear h4 hZ
  go_wp2
  have hlv:=run_loadVar_mid (P:=Tryz.prog) W4 (r + 1) 0 42 ZZ.toList _ (fun j v hv=>by rw [cell_of_row _ _ _ _ _ _ HC4.out]; simpa using hv) Tryz.underlying42 rfl (by rw [Array.length_toList,HZS.out]; exact hi53.out)
  rw [Array.toArray_toList] at hlv
  refine bodyPost_ret (v:=.tuple #[.agg ZZ,.int .i64 1]) (by simp [results,Tryz.results6,asAddr,hlv,Result.andThen]) rfl ⟨rfl,HB4.out⟩
end Go.Proofs.YtiefeeoellagnaaGreatDoor.V
