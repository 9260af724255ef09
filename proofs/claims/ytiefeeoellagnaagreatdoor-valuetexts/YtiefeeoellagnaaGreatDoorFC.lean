import Derived.Test.YtiefeeoellagnaaGreatDoorFA
import Derived.Lib.Builder
import Derived.Lib.MakeNoZero
import Derived.Lib.UnsafeStr
import Derived.Laws.Externs
import Derived.Laws.IdiomCopy
import Derived.Deep.OwnRows
namespace Go.Proofs.YtiefeeoellagnaaGreatDoor.S5
open Go.RowKit IM
set_option linter.unusedVariables false
theorem bcells_app (a b:List UInt8):bcells (a ++ b)=bcells a ++ bcells b:=by unfold bcells; rw [List.map_append]
def Kept (b:Nat) (w w':World):Prop:=∀ (k:Nat) (cs:Array Value) (T:TypeId) (fr:Nat × Nat),w.heap[k]?=some (.cells cs T fr) → k ≠ b → T ≠ 5 → w'.heap[k]?=some (.cells cs T fr)
def mcells (b:Nat) (v:Value) (W:Int):Array Value:=#[.pointer (some ⟨b,0,none⟩),v,.int .i64 W]
def MakerAt (B b:Nat) (W:Int) (l:List UInt8) (w:World):Prop:=
  B ≤ b∧∃ v,w.heap[b]?=some (.cells (mcells b v W) 222 (0,0))∧w.ownsRow B 5 1 v l.length (bcells l)∧v.ownBlock ≠ some b
theorem liesB:liesAt Tryz.prog Tryz.prog.depth 222 (3 / Tryz.prog.cellsOf 222) 0 220 1=true:=by kernel_rfl
theorem sizeB:(Tryz.prog.info? 220).map (·.size)=some 2:=by kernel_rfl
theorem cell_heap {w:World} {b:Nat} {cs:Array Value} {T:TypeId} {fr:Nat × Nat} (hb:w.heap[b]?=some (.cells cs T fr)) (j:Nat):w.cell? ⟨b,j,none⟩=cs[j]?:=by
  simp [World.cell?,hb]
set_option maxHeartbeats 1000000 in
set_option maxRecDepth 100000 in
theorem copyCheck_used (b:Nat) (w:World) (h0:w.cell? ⟨b,0,none⟩=some (.pointer (some ⟨b,0,none⟩))) :
    Calls Tryz.prog 233 #[.pointer (some ⟨b,0,none⟩)] w fun e w'=>e=.returned (.tuple #[])∧w'=w:=by
  obtain ⟨j,hj,_⟩:=Option.map_eq_some_iff.1 sizeB
  go_enter Tryz.func233,Tryz.ntmps233
  go_wp2
  rw [Lib.run_neq_ptr_same w _ Tryz.underlying217 hj]
  go_wp2
  go_end0
  exact ⟨rfl,rfl⟩
set_option maxHeartbeats 1000000 in
set_option maxRecDepth 100000 in
theorem copyCheck_fresh (b:Nat) (w:World) (h0:w.cell? ⟨b,0,none⟩=some (.pointer none)) (hsh:w.shape? b=some (222,3)) (hfz:w.frozen? ⟨b,0,none⟩=false) :
    Calls Tryz.prog 233 #[.pointer (some ⟨b,0,none⟩)] w fun e w'=>e=.returned (.tuple #[])∧w'=w.setCell ⟨b,0,none⟩ (.pointer (some ⟨b,0,none⟩)):=by
  obtain ⟨j,hj,hjs⟩:=Option.map_eq_some_iff.1 sizeB
  go_enter Tryz.func233,Tryz.ntmps233
  go_wp2
  rw [Lib.run_to_unsafe w ⟨b,0,none⟩ Tryz.underlying217 Tryz.underlying413 hj (by rw [hjs]; decide) hsh (show (0:Nat) < 3 by omega)]
  simp only [Result.andThen]
  rw [Oper.upon_value]
  go_wp2
  rw [run_callFunc_extern Tryz.func291 (by kernel_rfl) (by kernel_rfl) (by kernel_rfl) (e:=Extern.AbiNoEscape.same) (by kernel_rfl)]
  rw [Lib.run_noEscape]
  simp only [Result.andThen]
  rw [Oper.upon_value]
  go_wp2
  rw [Lib.run_from_unsafe w ⟨b,0,none⟩ Tryz.underlying413 Tryz.underlying217 hj hsh liesB]
  simp only [Result.andThen]
  rw [Oper.upon_value]
  go_wp2
  go_end0
  exact ⟨rfl,rfl⟩
theorem maker_put {B b:Nat} {W:Int} {v v':Value} {l:List UInt8} {w:World} (hB:B ≤ b) (hb:w.heap[b]?=some (.cells (mcells b v W) 222 (0,0))) (hown:w.ownsRow B 5 1 v' l.length (bcells l)) :
    MakerAt B b W l (w.setCell ⟨b,1,none⟩ v'):=by
  have hne:v'.ownBlock ≠ some b:=by
    intro e
    rcases hown.2 with ⟨h,_⟩ | ⟨g,cap,cur,h,_,hg,_⟩
    · subst h; simp [Value.ownBlock] at e
    · subst h
      simp [Value.ownBlock] at e
      subst e
      rw [hb] at hg
      injection hg with hg
      injection hg with _ h2
      exact absurd h2 (by decide)
  refine ⟨hB,v',?_,?_,hne⟩
  · simp [World.setCell,Array.getElem?_modify,hb,mcells]
  · refine hown.kept (row:=some b) ⟨rfl,rfl,rfl,by simp [World.setCell],fun k _ hk=>Below.heap_setCell _ _ _ _ (fun e=>hk (by simp [e]))⟩ ?_
    exact Or.inr hne
set_option maxHeartbeats 2000000 in
set_option maxRecDepth 100000 in
theorem write_any (B b:Nat) (W:Int) (l:List UInt8) (g cap:Nat) (s:List UInt8) (w:World) (h:MakerAt B b W l w) (hlen:l.length + s.length ≤ 140737488355328) (hBw:B ≤ w.heap.size)
    (hc:∀ j,(hj:j < s.length) → w.cell? ⟨g,j,none⟩=some (.int .u8 (s[j].toNat:Int))) :
    Calls Tryz.prog 197 #[.pointer (some ⟨b,0,none⟩),.slice (some ⟨g,0,none⟩) s.length cap] w fun e w'=>e=.returned (.tuple #[.int .i64 s.length,.nilIface])∧(MakerAt B b W (l ++ s) w'∧Below B w w'∧Kept b w w'):=by
  obtain ⟨i0,hi,hz0,hz1,hz2⟩:=info_parts info5
  obtain ⟨hB,v,hbk,hown,hne⟩:=h
  have c0:w.cell? ⟨b,0,none⟩=some (.pointer (some ⟨b,0,none⟩)):=by rw [cell_heap hbk]; rfl
  have c1:w.cell? ⟨b,1,none⟩=some v:=by rw [cell_heap hbk]; rfl
  have hbl:(bcells s).length=s.length * 1:=by simp [bcells]
  have HC:Hid (∀ j,(hj:j < s.length) → w.cell? ⟨g,j,none⟩=some (.int .u8 (s[j].toNat:Int))):=hc
  clear hc
  go_enter Tryz.func197,Tryz.ntmps197
  go_wp2_with fail
  refine (copyCheck_used b w c0).mono ?_
  rintro e w1 ⟨rfl,hw1⟩
  subst w1
  go_wp2_with (at_builtin; go_must (refine wpList_append_own _ rfl _ _ 218 rfl B 5 i0 (.int .u8 0) 1 1 Tryz.underlying218 hi hz0 hz1 hz2 rfl (by decide) _ _ _ rfl hown ⟨g,0,none⟩ s.length cap (bcells s) rfl hbl ?c1 ?c2 ?c3 ?c4 ?c5 ?_))
  case c1 =>
    intro t u hj
    obtain ⟨ht,e⟩:=List.getElem?_eq_some_iff.1 hj
    have ht2:t < s.length:=by simpa [bcells] using ht
    have:=HC.out t ht2
    rw [← e,show (⟨g,0,none⟩:Addr).add t=⟨g,t,none⟩ by unfold Addr.add; split <;> simp_all]
    simpa [bcells] using this
  case c2 =>
    intro u hu
    obtain ⟨x,_,rfl⟩:=List.mem_map.1 hu
    rfl
  case c3=>unfold maxLen; omega
  case c4=>omega
  case c5=>omega
  intro v' w2 hown' hgrow _
  have hb2:w2.heap[b]?=some (.cells (mcells b v W) 222 (0,0)):=by
    rw [hgrow.block b (row_lt hbk) (fun e=>hne e.symm)]
    exact hbk
  have d0:w2.cell? ⟨b,0,none⟩=some (.pointer (some ⟨b,0,none⟩)):=by rw [cell_heap hb2]; rfl
  have d1:w2.cell? ⟨b,1,none⟩=some v:=by rw [cell_heap hb2]; rfl
  have f1:w2.frozen? ⟨b,1,none⟩=false:=Lib.frozen_of_heap hb2 1
  obtain ⟨ao,n',cap2,rfl⟩:∃ ao n' cap,v'=.slice ao n' cap:=by
    obtain ⟨p,c,e⟩:=own_form hown'
    exact ⟨_,_,_,e⟩
  have HO2:Hid (w2.ownsRow B 5 1 (.slice ao n' cap2) (l ++ s).length (bcells (l ++ s))):=by
    rw [bcells_app,List.length_append]; exact hown'
  clear hown'
  go_wp2
  go_ret2
  refine ⟨rfl,maker_put hB hb2 HO2.out,((Below.refl B w).grown hgrow hBw (fun k hk=>(hown.lt k hk).1)).setCell (p:=⟨b,1,none⟩) hB _,?_⟩
  intro k cs T fr hk hkb hT
  have hne2:some k ≠ v.ownBlock:=by
    intro e
    rcases hown.2 with ⟨hv,_⟩ | ⟨g2,cap3,cur,hv,_,hg2,_⟩
    · rw [hv] at e; simp [Value.ownBlock] at e
    · rw [hv] at e
      simp [Value.ownBlock] at e
      subst e
      rw [hg2] at hk
      injection hk with hk
      injection hk with _ h2
      exact hT h2.symm
  have h2:w2.heap[k]?=some (.cells cs T fr):=by rw [hgrow.block k (row_lt hk) hne2]; exact hk
  simp [World.setCell,Array.getElem?_modify,Ne.symm hkb,h2]
set_option maxHeartbeats 2000000 in
set_option maxRecDepth 100000 in
theorem string_any (B b:Nat) (W:Int) (l:List UInt8) (w:World) (h:MakerAt B b W l w) (h0:l ≠ []) :
    Calls Tryz.prog 135 #[.pointer (some ⟨b,0,none⟩)] w fun e w'=>e=.returned (.string (strB l))∧Below B w w':=by
  obtain ⟨hB,v,hbk,hown,hne⟩:=h
  have hl0:l.length ≠ 0:=by simpa using h0
  obtain ⟨g,cap,cur,rfl,hbg,hg,hnc,hcm,hcs,htake⟩:∃ g cap cur,v=.slice (some ⟨g,0,none⟩) l.length cap∧B ≤ g∧w.heap[g]?=some (.cells cur 5 (0,0))∧l.length ≤ cap∧cap ≤ maxLen∧cur.size=cap * 1∧cur.toList.take (l.length * 1)=bcells l:=by
    rcases hown.2 with ⟨_,hz⟩ | ⟨g,cap,cur,hv,r⟩
    · exact absurd hz hl0
    · exact ⟨g,cap,cur,hv,r⟩
  have c1:w.drew.cell? ⟨b,1,none⟩=some (.slice (some ⟨g,0,none⟩) l.length cap):=by
    have:w.drew.heap[b]?=some (.cells (mcells b (.slice (some ⟨g,0,none⟩) l.length cap) W) 222 (0,0)):=hbk
    rw [cell_heap this]; rfl
  have hSD:(Builtin.unsafeSliceData_ #[218] 308 #[.slice (some ⟨g,0,none⟩) l.length cap]).run Tryz.prog w.drew=.ok (.pointer (some ⟨g,0,none⟩)) w.drew:=
    Lib.run_unsafeSliceData_row _ _ _ _ _ _ (by omega)
  have hUS:(Builtin.unsafeString_ #[308,3] 9 #[.pointer (some ⟨g,0,none⟩),.int .i64 l.length]).run Tryz.prog w.drew=.ok (.string (strB l)) (w.drew.freeze ⟨g,0,none⟩ l.length):=by
    refine Lib.run_unsafeString_row w.drew 308 3 9 5 Tryz.underlying308 (by kernel_rfl) g cur.size (by have hg':w.drew.heap[g]?=some (.cells cur 5 (0,0)):=hg; simp [World.shape?,hg']) l h0 (by omega) (by unfold maxLen at hcm; omega) ?_
    intro j x hx
    have:=hown.cells (g:=g) rfl j (.int .u8 x.toNat) (by simp [bcells,hx])
    exact this
  clear htake hown hne
  go_enter Tryz.func135,Tryz.ntmps135
  go_wp2
  go_region
  all_goals (go_wp2; go_ret; exact ⟨rfl,Lib.below_freeze (Below.drew (Below.refl B w)) (p:=⟨g,0,none⟩) hbg _⟩)
end Go.Proofs.YtiefeeoellagnaaGreatDoor.S5
namespace Go.Proofs.YtiefeeoellagnaaGreatDoor.S5
open Go.RowKit IM
set_option linter.unusedVariables false
def icells (l:List Int):List Value:=l.map fun n=>Value.int .i64 n
theorem icells_snoc (l:List Int) (n:Int):icells (l ++ [n])=icells l ++ [.int .i64 n]:=by unfold icells; rw [List.map_append]; rfl
theorem info3:(Tryz.prog.info? 3).map (fun i=>(i.zero,i.size,i.bytes))=some (some (.int .i64 0),1,8):=by kernel_rfl
def HoldsI (w:World) (v:Value) (l:List Int):Prop:=∃ q cap,v=.slice q l.length cap∧(l ≠ [] → ∃ g,q=some ⟨g,0,none⟩∧∀ j,(hj:j < l.length) → w.cell? ⟨g,j,none⟩=some (.int .i64 l[j]))
theorem HoldsI.keep {w w':World} {v:Value} {l:List Int} (h:HoldsI w v l) (hb:Below w.heap.size w w'):HoldsI w' v l:=by
  obtain ⟨q,cap,e,h2⟩:=h
  refine ⟨q,cap,e,fun hl=>?_⟩
  obtain ⟨g,eq,hc⟩:=h2 hl
  refine ⟨g,eq,fun j hj=>?_⟩
  have h1:=hc j hj
  have hlt:=World.block_lt_of_cell? _ _ h1
  rw [World.cell?_of_block (hb.block _ hlt)]
  exact h1
theorem HoldsI.own {w:World} {base:Nat} {v:Value} {l:List Int} (h:w.ownsRow base 3 1 v l.length (icells l)):HoldsI w v l:=by
  rcases h.2 with ⟨e,hn⟩ | ⟨g,cap,cur,hv,_,hg,hn,_,hs,ht⟩
  · have hl:l=[]:=List.length_eq_zero_iff.1 hn
    subst hl
    exact ⟨none,0,e,fun h=>absurd rfl h⟩
  · refine ⟨_,cap,hv,fun _=>⟨g,rfl,fun j hj=>?_⟩⟩
    rw [cell_of_row _ _ _ _ _ _ hg]
    have h2:=congrArg (fun x=>x[j]?) ht
    simp only [Nat.mul_one,icells] at h2
    rw [List.getElem?_take_of_lt hj,List.getElem?_map,List.getElem?_eq_getElem hj] at h2
    simpa using h2
theorem cell_newN (w:World) (n:Nat) (v:Value) (t:TypeId):((w.drewN n).alloc (.cells #[v] t)).cell? ((⟨w.heap.size,0,none⟩:Addr).add 0)=some v:=by
  show ((w.drewN n).alloc (.cells #[v] t)).cell? ⟨(w.drewN n).heap.size,0,none⟩=some v
  rw [World.cell?_alloc_at _ _ _ _ rfl]; rfl
end Go.Proofs.YtiefeeoellagnaaGreatDoor.S5
namespace Go.Proofs.YtiefeeoellagnaaGreatDoor.S5
open Go.RowKit IM
set_option linter.unusedVariables false
end Go.Proofs.YtiefeeoellagnaaGreatDoor.S5
namespace Go.Proofs.YtiefeeoellagnaaGreatDoor.S5.P
open Go.RowKit IM
set_option linter.unusedVariables false
theorem bcells_app (a b:List UInt8):bcells (a ++ b)=bcells a ++ bcells b:=by unfold bcells; rw [List.map_append]
def Kept (b:Nat) (w w':World):Prop:=∀ (k:Nat) (cs:Array Value) (T:TypeId) (fr:Nat × Nat),w.heap[k]?=some (.cells cs T fr) → k ≠ b → T ≠ 5 → w'.heap[k]?=some (.cells cs T fr)
theorem Kept.trans {b:Nat} {a c d:World} (h:Kept b a c) (h2:Kept b c d):Kept b a d:=fun k cs T fr e hk hT=>h2 k cs T fr (h k cs T fr e hk hT) hk hT
theorem Kept.below {b:Nat} {w w':World} (h:Below w.heap.size w w'):Kept b w w':=fun k cs T fr e _ _=>by rw [h.block k (row_lt e)]; exact e
def mcells (b:Nat) (v:Value) (W:Int):Array Value:=#[.pointer (some ⟨b,0,none⟩),v]
def MakerAt (B b:Nat) (W:Int) (l:List UInt8) (w:World):Prop:=
  B ≤ b∧∃ v,w.heap[b]?=some (.cells (mcells b v W) 220 (0,0))∧w.ownsRow B 5 1 v l.length (bcells l)∧v.ownBlock ≠ some b
theorem liesB:liesAt Tryz.prog Tryz.prog.depth 220 (2 / Tryz.prog.cellsOf 220) 0 220 1=true:=by kernel_rfl
theorem sizeB:(Tryz.prog.info? 220).map (·.size)=some 2:=by kernel_rfl
theorem cell_heap {w:World} {b:Nat} {cs:Array Value} {T:TypeId} {fr:Nat × Nat} (hb:w.heap[b]?=some (.cells cs T fr)) (j:Nat):w.cell? ⟨b,j,none⟩=cs[j]?:=by
  simp [World.cell?,hb]
set_option maxHeartbeats 1000000 in
set_option maxRecDepth 100000 in
theorem copyCheck_used (b:Nat) (w:World) (h0:w.cell? ⟨b,0,none⟩=some (.pointer (some ⟨b,0,none⟩))) :
    Calls Tryz.prog 233 #[.pointer (some ⟨b,0,none⟩)] w fun e w'=>e=.returned (.tuple #[])∧w'=w:=by
  obtain ⟨j,hj,_⟩:=Option.map_eq_some_iff.1 sizeB
  go_enter Tryz.func233,Tryz.ntmps233
  go_wp2
  rw [Lib.run_neq_ptr_same w _ Tryz.underlying217 hj]
  go_wp2
  go_end0
  exact ⟨rfl,rfl⟩
set_option maxHeartbeats 1000000 in
set_option maxRecDepth 100000 in
theorem copyCheck_fresh (b:Nat) (w:World) (h0:w.cell? ⟨b,0,none⟩=some (.pointer none)) (hsh:w.shape? b=some (220,2)) (hfz:w.frozen? ⟨b,0,none⟩=false) :
    Calls Tryz.prog 233 #[.pointer (some ⟨b,0,none⟩)] w fun e w'=>e=.returned (.tuple #[])∧w'=w.setCell ⟨b,0,none⟩ (.pointer (some ⟨b,0,none⟩)):=by
  obtain ⟨j,hj,hjs⟩:=Option.map_eq_some_iff.1 sizeB
  go_enter Tryz.func233,Tryz.ntmps233
  go_wp2
  rw [Lib.run_to_unsafe w ⟨b,0,none⟩ Tryz.underlying217 Tryz.underlying413 hj (by rw [hjs]; decide) hsh (show (0:Nat) < 2 by omega)]
  simp only [Result.andThen]
  rw [Oper.upon_value]
  go_wp2
  rw [run_callFunc_extern Tryz.func291 (by kernel_rfl) (by kernel_rfl) (by kernel_rfl) (e:=Extern.AbiNoEscape.same) (by kernel_rfl)]
  rw [Lib.run_noEscape]
  simp only [Result.andThen]
  rw [Oper.upon_value]
  go_wp2
  rw [Lib.run_from_unsafe w ⟨b,0,none⟩ Tryz.underlying413 Tryz.underlying217 hj hsh liesB]
  simp only [Result.andThen]
  rw [Oper.upon_value]
  go_wp2
  go_end0
  exact ⟨rfl,rfl⟩
theorem maker_put {B b:Nat} {W:Int} {v v':Value} {l:List UInt8} {w:World} (hB:B ≤ b) (hb:w.heap[b]?=some (.cells (mcells b v W) 220 (0,0))) (hown:w.ownsRow B 5 1 v' l.length (bcells l)) :
    MakerAt B b W l (w.setCell ⟨b,1,none⟩ v'):=by
  have hne:v'.ownBlock ≠ some b:=by
    intro e
    rcases hown.2 with ⟨h,_⟩ | ⟨g,cap,cur,h,_,hg,_⟩
    · subst h; simp [Value.ownBlock] at e
    · subst h
      simp [Value.ownBlock] at e
      subst e
      rw [hb] at hg
      injection hg with hg
      injection hg with _ h2
      exact absurd h2 (by decide)
  refine ⟨hB,v',?_,?_,hne⟩
  · simp [World.setCell,Array.getElem?_modify,hb,mcells]
  · refine hown.kept (row:=some b) ⟨rfl,rfl,rfl,by simp [World.setCell],fun k _ hk=>Below.heap_setCell _ _ _ _ (fun e=>hk (by simp [e]))⟩ ?_
    exact Or.inr hne
set_option maxHeartbeats 2000000 in
set_option maxRecDepth 100000 in
theorem write_any (B b:Nat) (W:Int) (l:List UInt8) (g cap:Nat) (s:List UInt8) (w:World) (h:MakerAt B b W l w) (hlen:l.length + s.length ≤ 140737488355328) (hBw:B ≤ w.heap.size)
    (hc:∀ j,(hj:j < s.length) → w.cell? ⟨g,j,none⟩=some (.int .u8 (s[j].toNat:Int))) :
    Calls Tryz.prog 197 #[.pointer (some ⟨b,0,none⟩),.slice (some ⟨g,0,none⟩) s.length cap] w fun e w'=>e=.returned (.tuple #[.int .i64 s.length,.nilIface])∧(MakerAt B b W (l ++ s) w'∧Below B w w'∧Kept b w w'):=by
  obtain ⟨i0,hi,hz0,hz1,hz2⟩:=info_parts info5
  obtain ⟨hB,v,hbk,hown,hne⟩:=h
  have c0:w.cell? ⟨b,0,none⟩=some (.pointer (some ⟨b,0,none⟩)):=by rw [cell_heap hbk]; rfl
  have c1:w.cell? ⟨b,1,none⟩=some v:=by rw [cell_heap hbk]; rfl
  have hbl:(bcells s).length=s.length * 1:=by simp [bcells]
  have HC:Hid (∀ j,(hj:j < s.length) → w.cell? ⟨g,j,none⟩=some (.int .u8 (s[j].toNat:Int))):=hc
  clear hc
  go_enter Tryz.func197,Tryz.ntmps197
  go_wp2_with fail
  refine (copyCheck_used b w c0).mono ?_
  rintro e w1 ⟨rfl,hw1⟩
  subst w1
  go_wp2_with (at_builtin; go_must (refine wpList_append_own _ rfl _ _ 218 rfl B 5 i0 (.int .u8 0) 1 1 Tryz.underlying218 hi hz0 hz1 hz2 rfl (by decide) _ _ _ rfl hown ⟨g,0,none⟩ s.length cap (bcells s) rfl hbl ?c1 ?c2 ?c3 ?c4 ?c5 ?_))
  case c1 =>
    intro t u hj
    obtain ⟨ht,e⟩:=List.getElem?_eq_some_iff.1 hj
    have ht2:t < s.length:=by simpa [bcells] using ht
    have:=HC.out t ht2
    rw [← e,show (⟨g,0,none⟩:Addr).add t=⟨g,t,none⟩ by unfold Addr.add; split <;> simp_all]
    simpa [bcells] using this
  case c2 =>
    intro u hu
    obtain ⟨x,_,rfl⟩:=List.mem_map.1 hu
    rfl
  case c3=>unfold maxLen; omega
  case c4=>omega
  case c5=>omega
  intro v' w2 hown' hgrow _
  have hb2:w2.heap[b]?=some (.cells (mcells b v W) 220 (0,0)):=by
    rw [hgrow.block b (row_lt hbk) (fun e=>hne e.symm)]
    exact hbk
  have d0:w2.cell? ⟨b,0,none⟩=some (.pointer (some ⟨b,0,none⟩)):=by rw [cell_heap hb2]; rfl
  have d1:w2.cell? ⟨b,1,none⟩=some v:=by rw [cell_heap hb2]; rfl
  have f1:w2.frozen? ⟨b,1,none⟩=false:=Lib.frozen_of_heap hb2 1
  obtain ⟨ao,n',cap2,rfl⟩:∃ ao n' cap,v'=.slice ao n' cap:=by
    obtain ⟨p,c,e⟩:=own_form hown'
    exact ⟨_,_,_,e⟩
  have HO2:Hid (w2.ownsRow B 5 1 (.slice ao n' cap2) (l ++ s).length (bcells (l ++ s))):=by
    rw [bcells_app,List.length_append]; exact hown'
  clear hown'
  go_wp2
  go_ret2
  refine ⟨rfl,maker_put hB hb2 HO2.out,((Below.refl B w).grown hgrow hBw (fun k hk=>(hown.lt k hk).1)).setCell (p:=⟨b,1,none⟩) hB _,?_⟩
  intro k cs T fr hk hkb hT
  have hne2:some k ≠ v.ownBlock:=by
    intro e
    rcases hown.2 with ⟨hv,_⟩ | ⟨g2,cap3,cur,hv,_,hg2,_⟩
    · rw [hv] at e; simp [Value.ownBlock] at e
    · rw [hv] at e
      simp [Value.ownBlock] at e
      subst e
      rw [hg2] at hk
      injection hk with hk
      injection hk with _ h2
      exact hT h2.symm
  have h2:w2.heap[k]?=some (.cells cs T fr):=by rw [hgrow.block k (row_lt hk) hne2]; exact hk
  simp [World.setCell,Array.getElem?_modify,Ne.symm hkb,h2]
set_option maxHeartbeats 2000000 in
set_option maxRecDepth 100000 in
theorem string_any (B b:Nat) (W:Int) (l:List UInt8) (w:World) (h:MakerAt B b W l w) (h0:l ≠ []) :
    Calls Tryz.prog 135 #[.pointer (some ⟨b,0,none⟩)] w fun e w'=>e=.returned (.string (strB l))∧Below B w w':=by
  obtain ⟨hB,v,hbk,hown,hne⟩:=h
  have hl0:l.length ≠ 0:=by simpa using h0
  obtain ⟨g,cap,cur,rfl,hbg,hg,hnc,hcm,hcs,htake⟩:∃ g cap cur,v=.slice (some ⟨g,0,none⟩) l.length cap∧B ≤ g∧w.heap[g]?=some (.cells cur 5 (0,0))∧l.length ≤ cap∧cap ≤ maxLen∧cur.size=cap * 1∧cur.toList.take (l.length * 1)=bcells l:=by
    rcases hown.2 with ⟨_,hz⟩ | ⟨g,cap,cur,hv,r⟩
    · exact absurd hz hl0
    · exact ⟨g,cap,cur,hv,r⟩
  have c1:w.drew.cell? ⟨b,1,none⟩=some (.slice (some ⟨g,0,none⟩) l.length cap):=by
    have:w.drew.heap[b]?=some (.cells (mcells b (.slice (some ⟨g,0,none⟩) l.length cap) W) 220 (0,0)):=hbk
    rw [cell_heap this]; rfl
  have hSD:(Builtin.unsafeSliceData_ #[218] 308 #[.slice (some ⟨g,0,none⟩) l.length cap]).run Tryz.prog w.drew=.ok (.pointer (some ⟨g,0,none⟩)) w.drew:=
    Lib.run_unsafeSliceData_row _ _ _ _ _ _ (by omega)
  have hUS:(Builtin.unsafeString_ #[308,3] 9 #[.pointer (some ⟨g,0,none⟩),.int .i64 l.length]).run Tryz.prog w.drew=.ok (.string (strB l)) (w.drew.freeze ⟨g,0,none⟩ l.length):=by
    refine Lib.run_unsafeString_row w.drew 308 3 9 5 Tryz.underlying308 (by kernel_rfl) g cur.size (by have hg':w.drew.heap[g]?=some (.cells cur 5 (0,0)):=hg; simp [World.shape?,hg']) l h0 (by omega) (by unfold maxLen at hcm; omega) ?_
    intro j x hx
    have:=hown.cells (g:=g) rfl j (.int .u8 x.toNat) (by simp [bcells,hx])
    exact this
  clear htake hown hne
  go_enter Tryz.func135,Tryz.ntmps135
  go_wp2
  go_region
  all_goals (go_wp2; go_ret; exact ⟨rfl,Lib.below_freeze (Below.drew (Below.refl B w)) (p:=⟨g,0,none⟩) hbg _⟩)
end Go.Proofs.YtiefeeoellagnaaGreatDoor.S5.P
