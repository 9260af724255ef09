import Derived.Test.YtiefeeoellagnaaGreatDoorAA
import Derived.Lib.Builder
import Derived.Lib.MakeNoZero
import Derived.Lib.UnsafeStr
import Derived.Laws.Externs
import Derived.Laws.IdiomCopy
namespace Go.Proofs.YtiefeeoellagnaaGreatDoor.S6
open Go.RowKit
set_option linter.unusedVariables false
def Kept (b:Nat) (w w':World):Prop:=∀ (k:Nat) (cs:Array Value) (T:TypeId) (fr:Nat × Nat),w.heap[k]?=some (.cells cs T fr) → k ≠ b → T ≠ 5 → w'.heap[k]?=some (.cells cs T fr)
theorem Kept.trans {b:Nat} {a c d:World} (h:Kept b a c) (h2:Kept b c d):Kept b a d:=fun k cs T fr e hk hT=>h2 k cs T fr (h k cs T fr e hk hT) hk hT
theorem Kept.below {b:Nat} {w w':World} (h:Below w.heap.size w w'):Kept b w w':=fun k cs T fr e _ _=>by rw [h.block k (row_lt e)]; exact e
structure BK (B b:Nat) (w w':World):Prop where
  bel:Below B w w'
  kept:Kept b w w'
theorem BK.trans {B b:Nat} {x y z:World} (h:BK B b x y) (k:BK B b y z):BK B b x z:=⟨h.bel.trans k.bel,h.kept.trans k.kept⟩
theorem BK.size {B b:Nat} {x y:World} (h:BK B b x y):x.heap.size ≤ y.heap.size:=h.bel.size
theorem BK.refl (B b:Nat) (w:World):BK B b w w:=⟨Below.refl _ _,fun _ _ _ _ h _ _=>h⟩
theorem BK.of {B b:Nat} {x y:World} (h:Below x.heap.size x y) (hB:B ≤ x.heap.size):BK B b x y:=⟨h.mono hB,Kept.below h⟩
theorem BK.dn {B b:Nat} {x y:World} (h:BK B b x y) (n:Nat):BK B b x (y.drewN n):=h.trans ⟨below_dn (Below.refl _ y) n,fun _ _ _ _ h _ _=>h⟩
theorem kept_of {B b:Nat} {w w1 w2:World} {v v':Value} {l:List UInt8} (hown:w.ownsRow B 5 1 v l.length (bcells l)) (h1:∀ k,k < w.heap.size → w1.heap[k]?=w.heap[k]?) (hs:w.heap.size ≤ w1.heap.size) (hg:w1.grownBy w2 v.ownBlock) :
    Kept b w (w2.setCell ⟨b,1,none⟩ v'):=by
  intro k cs T fr hk hkb hT
  have hne2:some k ≠ v.ownBlock:=by
    intro e
    rcases hown.2 with ⟨hv,_⟩ | ⟨g2,cap3,cur,hv,_,hg2,_⟩
    · rw [hv] at e; simp [Value.ownBlock] at e
    · rw [hv] at e
      simp [Value.ownBlock] at e
      subst e
      rw [hg2] at hk
      injection hk with hk
      injection hk with _ h2
      exact hT h2.symm
  have hlt:=row_lt hk
  have h2:w2.heap[k]?=some (.cells cs T fr):=by rw [hg.block k (by omega) hne2,h1 k hlt]; exact hk
  simp [World.setCell,Array.getElem?_modify,Ne.symm hkb,h2]
def mcells (b:Nat) (v:Value):Array Value:=#[.pointer (some ⟨b,0,none⟩),v]
def MakerAt (B b:Nat) (l:List UInt8) (w:World):Prop:=
  B ≤ b∧∃ v,w.heap[b]?=some (.cells (mcells b v) 419 (0,0))∧w.ownsRow B 5 1 v l.length (bcells l)∧v.ownBlock ≠ some b
theorem liesB:liesAt Tryz.prog Tryz.prog.depth 419 (2 / Tryz.prog.cellsOf 419) 0 220 1=true:=by kernel_rfl
theorem sizeB:(Tryz.prog.info? 220).map (·.size)=some 2:=by kernel_rfl
theorem cell_heap {w:World} {b:Nat} {cs:Array Value} {T:TypeId} {fr:Nat × Nat} (hb:w.heap[b]?=some (.cells cs T fr)) (j:Nat):w.cell? ⟨b,j,none⟩=cs[j]?:=by
  simp [World.cell?,hb]
set_option maxHeartbeats 1000000 in
set_option maxRecDepth 100000 in
theorem copyCheck_used (b:Nat) (w:World) (h0:w.cell? ⟨b,0,none⟩=some (.pointer (some ⟨b,0,none⟩))) :
    Calls Tryz.prog 233 #[.pointer (some ⟨b,0,none⟩)] w fun e w'=>e=.returned (.tuple #[])∧w'=w:=by
  obtain ⟨j,hj,_⟩:=Option.map_eq_some_iff.1 sizeB
  go_enter Tryz.func233,Tryz.ntmps233
  go_wp2
  rw [Lib.run_neq_ptr_same w _ Tryz.underlying217 hj]
  go_wp2
  go_end0
  exact ⟨rfl,rfl⟩
set_option maxHeartbeats 1000000 in
set_option maxRecDepth 100000 in
theorem copyCheck_fresh (b:Nat) (w:World) (h0:w.cell? ⟨b,0,none⟩=some (.pointer none)) (hsh:w.shape? b=some (419,2)) (hfz:w.frozen? ⟨b,0,none⟩=false) :
    Calls Tryz.prog 233 #[.pointer (some ⟨b,0,none⟩)] w fun e w'=>e=.returned (.tuple #[])∧w'=w.setCell ⟨b,0,none⟩ (.pointer (some ⟨b,0,none⟩)):=by
  obtain ⟨j,hj,hjs⟩:=Option.map_eq_some_iff.1 sizeB
  go_enter Tryz.func233,Tryz.ntmps233
  go_wp2
  rw [Lib.run_to_unsafe w ⟨b,0,none⟩ Tryz.underlying217 Tryz.underlying413 hj (by rw [hjs]; decide) hsh (show (0:Nat) < 2 by omega)]
  simp only [Result.andThen]
  rw [Oper.upon_value]
  go_wp2
  rw [run_callFunc_extern Tryz.func291 (by kernel_rfl) (by kernel_rfl) (by kernel_rfl) (e:=Extern.AbiNoEscape.same) (by kernel_rfl)]
  rw [Lib.run_noEscape]
  simp only [Result.andThen]
  rw [Oper.upon_value]
  go_wp2
  rw [Lib.run_from_unsafe w ⟨b,0,none⟩ Tryz.underlying413 Tryz.underlying217 hj hsh liesB]
  simp only [Result.andThen]
  rw [Oper.upon_value]
  go_wp2
  go_end0
  exact ⟨rfl,rfl⟩
theorem maker_put {B b:Nat} {v v':Value} {l:List UInt8} {w:World} (hB:B ≤ b) (hb:w.heap[b]?=some (.cells (mcells b v) 419 (0,0))) (hown:w.ownsRow B 5 1 v' l.length (bcells l)) :
    MakerAt B b l (w.setCell ⟨b,1,none⟩ v'):=by
  have hne:v'.ownBlock ≠ some b:=by
    intro e
    rcases hown.2 with ⟨h,_⟩ | ⟨g,cap,cur,h,_,hg,_⟩
    · subst h; simp [Value.ownBlock] at e
    · subst h
      simp [Value.ownBlock] at e
      subst e
      rw [hb] at hg
      injection hg with hg
      injection hg with _ h2
      exact absurd h2 (by decide)
  refine ⟨hB,v',?_,?_,hne⟩
  · simp [World.setCell,Array.getElem?_modify,hb,mcells]
  · refine hown.kept (row:=some b) ⟨rfl,rfl,rfl,by simp [World.setCell],fun k _ hk=>Below.heap_setCell _ _ _ _ (fun e=>hk (by simp [e]))⟩ ?_
    exact Or.inr hne
set_option maxHeartbeats 2000000 in
set_option maxRecDepth 100000 in
theorem writeString_any (B b:Nat) (l:List UInt8) (s:ByteArray) (w:World) (h:MakerAt B b l w) (hlen:l.length + s.size ≤ 140737488355328) (hBw:B ≤ w.heap.size) :
    Calls Tryz.prog 296 #[.pointer (some ⟨b,0,none⟩),.string s] w fun e w'=>e=.returned (.tuple #[.int .i64 s.size,.nilIface])∧(MakerAt B b (l ++ s.data.toList) w'∧BK B b w w'):=by
  obtain ⟨i0,hi,hz0,hz1,hz2⟩:=info_parts info5
  obtain ⟨hB,v,hbk,hown,hne⟩:=h
  have c0:w.cell? ⟨b,0,none⟩=some (.pointer (some ⟨b,0,none⟩)):=by rw [cell_heap hbk]; rfl
  have c1:w.cell? ⟨b,1,none⟩=some v:=by rw [cell_heap hbk]; rfl
  go_enter Tryz.func296,Tryz.ntmps296
  go_wp2_with fail
  refine (copyCheck_used b w c0).mono ?_
  rintro e w1 ⟨rfl,hw1⟩
  subst w1
  go_wp2_with (at_builtin; go_must (refine Lib.wpList_append_own_string _ rfl _ _ 218 9 rfl B 5 i0 Tryz.underlying218 Tryz.underlying9 hi hz0 hz1 hz2 _ _ _ rfl hown s rfl ?c3 ?c4 ?c5 ?_))
  case c3=>unfold maxLen; omega
  case c4=>omega
  case c5=>omega
  intro v' w2 hown' hgrow _
  have hb2:w2.heap[b]?=some (.cells (mcells b v) 419 (0,0)):=by
    rw [hgrow.block b (row_lt hbk) (fun e=>hne e.symm)]
    exact hbk
  have d0:w2.cell? ⟨b,0,none⟩=some (.pointer (some ⟨b,0,none⟩)):=by rw [cell_heap hb2]; rfl
  have d1:w2.cell? ⟨b,1,none⟩=some v:=by rw [cell_heap hb2]; rfl
  have f1:w2.frozen? ⟨b,1,none⟩=false:=Lib.frozen_of_heap hb2 1
  obtain ⟨ao,n',cap,rfl⟩:∃ ao n' cap,v'=.slice ao n' cap:=by
    obtain ⟨p,c,e⟩:=own_form hown'
    exact ⟨_,_,_,e⟩
  have HO2:Hid (w2.ownsRow B 5 1 (.slice ao n' cap) (l ++ s.data.toList).length (bcells (l ++ s.data.toList))):=by
    rw [bcells_str,List.length_append,list_len]; exact hown'
  clear hown'
  go_wp2
  go_ret2
  refine ⟨rfl,maker_put hB hb2 HO2.out,?_,?_⟩
  · exact ((Below.refl B w).grown hgrow hBw (fun k hk=>(hown.lt k hk).1)).setCell (p:=⟨b,1,none⟩) hB _
  · exact kept_of hown (fun _ _=>rfl) (Nat.le_refl _) hgrow
set_option maxHeartbeats 2000000 in
set_option maxRecDepth 100000 in
theorem writeByte_any (B b:Nat) (l:List UInt8) (c:UInt8) (w:World) (h:MakerAt B b l w) (hlen:l.length + 1 ≤ 140737488355328) (hBw:B ≤ w.heap.size) :
    Calls Tryz.prog 299 #[.pointer (some ⟨b,0,none⟩),.int .u8 (c.toNat:Int)] w fun e w'=>e=.returned .nilIface∧(MakerAt B b (l ++ [c]) w'∧BK B b w w'):=by
  obtain ⟨i0,hi,hz0,hz1,hz2⟩:=info_parts info5
  obtain ⟨hB,v,hbk,hown,hne⟩:=h
  have c0:w.cell? ⟨b,0,none⟩=some (.pointer (some ⟨b,0,none⟩)):=by rw [cell_heap hbk]; rfl
  have c1:w.cell? ⟨b,1,none⟩=some v:=by rw [cell_heap hbk]; rfl
  go_enter Tryz.func299,Tryz.ntmps299
  go_wp2_with fail
  refine (copyCheck_used b w c0).mono ?_
  rintro e w1 ⟨rfl,hw1⟩
  subst w1
  go_wp2_with (at_builtin; go_must (refine wpList_append_own _ rfl _ _ 218 rfl B 5 i0 (.int .u8 0) 1 1 Tryz.underlying218 hi hz0 hz1 hz2 rfl (by decide) _ _ _ rfl (World.ownsRow.alloc hown _) ⟨w.heap.size,0,none⟩ 1 1 [.int .u8 (c.toNat:Int)] rfl rfl ?c1 ?c2 ?c3 ?c4 ?c5 ?_))
  case c1 =>
    intro t u hj
    match t,hj with
    | 0,hj=>simp at hj; subst hj; simp [Addr.add]
  case c2=>intro u hu; simp at hu; subst hu; rfl
  case c3=>unfold maxLen; omega
  case c4=>omega
  case c5=>simp; omega
  intro v' w2 hown' hgrow _
  have hb2:w2.heap[b]?=some (.cells (mcells b v) 419 (0,0)):=by
    rw [hgrow.block b (by have:=row_lt hbk; simp; omega) (fun e=>hne e.symm)]
    exact (heap_alloc_old w _ (row_lt hbk)).trans hbk
  have d0:w2.cell? ⟨b,0,none⟩=some (.pointer (some ⟨b,0,none⟩)):=by rw [cell_heap hb2]; rfl
  have d1:w2.cell? ⟨b,1,none⟩=some v:=by rw [cell_heap hb2]; rfl
  have f1:w2.frozen? ⟨b,1,none⟩=false:=Lib.frozen_of_heap hb2 1
  obtain ⟨ao,n',cap,rfl⟩:∃ ao n' cap,v'=.slice ao n' cap:=by
    obtain ⟨p,c,e⟩:=own_form hown'
    exact ⟨_,_,_,e⟩
  have HO2:Hid (w2.ownsRow B 5 1 (.slice ao n' cap) (l ++ [c]).length (bcells (l ++ [c]))):=by
    rw [bcells_snoc,List.length_append]; exact hown'
  have HBB:Hid (Below B w w2):=((Below.refl B w).alloc hBw _).grown hgrow (by simp; omega) (fun k hk=>(World.ownsRow.lt hown k hk).1)
  have HKP:Hid (∀ v',Kept b w (w2.setCell ⟨b,1,none⟩ v')):=fun v'=>kept_of hown (fun k hk=>heap_alloc_old w _ hk) (by simp) hgrow
  clear hown' hgrow
  go_wp2
  go_ret
  exact ⟨rfl,maker_put hB hb2 HO2.out,HBB.out.setCell (p:=⟨b,1,none⟩) hB _,HKP.out _⟩
set_option maxHeartbeats 2000000 in
set_option maxRecDepth 100000 in
theorem string_any (B b:Nat) (l:List UInt8) (w:World) (h:MakerAt B b l w) (h0:l ≠ []) :
    Calls Tryz.prog 135 #[.pointer (some ⟨b,0,none⟩)] w fun e w'=>e=.returned (.string (strB l))∧Below B w w':=by
  obtain ⟨hB,v,hbk,hown,hne⟩:=h
  have hl0:l.length ≠ 0:=by simpa using h0
  obtain ⟨g,cap,cur,rfl,hbg,hg,hnc,hcm,hcs,htake⟩:∃ g cap cur,v=.slice (some ⟨g,0,none⟩) l.length cap∧B ≤ g∧w.heap[g]?=some (.cells cur 5 (0,0))∧l.length ≤ cap∧cap ≤ maxLen∧cur.size=cap * 1∧cur.toList.take (l.length * 1)=bcells l:=by
    rcases hown.2 with ⟨_,hz⟩ | ⟨g,cap,cur,hv,r⟩
    · exact absurd hz hl0
    · exact ⟨g,cap,cur,hv,r⟩
  have c1:w.drew.cell? ⟨b,1,none⟩=some (.slice (some ⟨g,0,none⟩) l.length cap):=by
    have:w.drew.heap[b]?=some (.cells (mcells b (.slice (some ⟨g,0,none⟩) l.length cap)) 419 (0,0)):=hbk
    rw [cell_heap this]; rfl
  have hSD:(Builtin.unsafeSliceData_ #[218] 308 #[.slice (some ⟨g,0,none⟩) l.length cap]).run Tryz.prog w.drew=.ok (.pointer (some ⟨g,0,none⟩)) w.drew:=
    Lib.run_unsafeSliceData_row _ _ _ _ _ _ (by omega)
  have hUS:(Builtin.unsafeString_ #[308,3] 9 #[.pointer (some ⟨g,0,none⟩),.int .i64 l.length]).run Tryz.prog w.drew=.ok (.string (strB l)) (w.drew.freeze ⟨g,0,none⟩ l.length):=by
    refine Lib.run_unsafeString_row w.drew 308 3 9 5 Tryz.underlying308 (by kernel_rfl) g cur.size (by have hg':w.drew.heap[g]?=some (.cells cur 5 (0,0)):=hg; simp [World.shape?,hg']) l h0 (by omega) (by unfold maxLen at hcm; omega) ?_
    intro j x hx
    have:=hown.cells (g:=g) rfl j (.int .u8 x.toNat) (by simp [bcells,hx])
    exact this
  clear htake hown hne
  go_enter Tryz.func135,Tryz.ntmps135
  go_wp2
  go_region
  all_goals (go_wp2; go_ret; exact ⟨rfl,Lib.below_freeze (Below.drew (Below.refl B w)) (p:=⟨g,0,none⟩) hbg _⟩)
end Go.Proofs.YtiefeeoellagnaaGreatDoor.S6
namespace Go.Proofs.YtiefeeoellagnaaGreatDoor.S6
open Go.RowKit
set_option linter.unusedVariables false
theorem grown_m {B b:Nat} {w:World} {cs:Array Value} (hB:B ≤ b) (hbk:w.heap[b]?=some (.cells (mcells b (.slice none 0 0)) 419 (0,0))) (hBw:B ≤ w.heap.size) (hm:cs.size ≤ maxLen) :
    MakerAt B b [] ((w.setCell ⟨b,1,none⟩ (.slice (some ⟨w.heap.size,0,none⟩) 0 cs.size)).alloc (.cells cs 5)).drew.drew.drew ∧
      Below B w ((w.setCell ⟨b,1,none⟩ (.slice (some ⟨w.heap.size,0,none⟩) 0 cs.size)).alloc (.cells cs 5)).drew.drew.drew:=by
  have hlt:=row_lt hbk
  have hb2:(w.alloc (.cells cs 5)).heap[b]?=some (.cells (mcells b (.slice none 0 0)) 419 (0,0)):=(heap_alloc_old w _ hlt).trans hbk
  have hown:(w.alloc (.cells cs 5)).ownsRow B 5 1 (.slice (some ⟨w.heap.size,0,none⟩) 0 cs.size) ([]:List UInt8).length (bcells []):=
    ⟨rfl,.inr ⟨w.heap.size,cs.size,cs,rfl,hBw,heap_alloc_new w _,Nat.zero_le _,hm,by simp,by simp [bcells]⟩⟩
  have h:=maker_put hB hb2 hown
  have h2:=((Below.refl B w).alloc hBw (.cells cs 5)).setCell (p:=⟨b,1,none⟩) hB (.slice (some ⟨w.heap.size,0,none⟩) 0 cs.size)
  rw [World.setCell_alloc_past _ b 1 _ hlt] at h h2
  exact ⟨h,h2.drew.drew.drew⟩
set_option maxHeartbeats 1000000 in
set_option maxRecDepth 1000000 in
theorem grow_fresh (B b n:Nat) (w:World) (hB:B ≤ b) (hbk:w.heap[b]?=some (.cells (mcells b (.slice none 0 0)) 419 (0,0))) (hBw:B ≤ w.heap.size) (hn:n ≤ 281474976710656) :
    Calls Tryz.prog 234 #[.pointer (some ⟨b,0,none⟩),.int .i64 n] w fun e w'=>e=.returned (.tuple #[])∧(MakerAt B b [] w'∧Below B w w'):=by
  obtain ⟨cs,hrun,hle,hmax⟩:=Lib.run_makeNoZero (P:=Tryz.prog) w.drew #[3] 218 5 Tryz.underlying218 n hn
  have hw:IntKind.i64.wrap (IntKind.i64.wrap 0 + (n:Int))=n:=by
    rw [IntKind.wrap_i64,IntKind.wrap_i64]
    omega
  have hcall:(callFunc 292 #[.int .i64 (IntKind.i64.wrap (IntKind.i64.wrap 0 + (n:Int)))]).run Tryz.prog w.drew=.ok (.value (.slice (some ⟨w.drew.heap.size,0,none⟩) n cs.size)) (w.drew.drew.drew.alloc (.cells cs 5)):=by
    rw [hw,run_callFunc_extern Tryz.func292 (by kernel_rfl) (by kernel_rfl) (by kernel_rfl) (e:=Extern.BytealgMakeNoZero.makeNoZero #[3] #[218]) (by kernel_rfl),hrun]
    rfl
  have hlt:=row_lt hbk
  have c1:w.drew.cell? ⟨b,1,none⟩=some (.slice none 0 0):=by
    have:w.drew.heap[b]?=_:=hbk
    rw [cell_heap this]; rfl
  have hb2:(w.alloc (.cells cs 5)).heap[b]?=some (.cells (mcells b (.slice none 0 0)) 419 (0,0)):=(heap_alloc_old w _ hlt).trans hbk
  have c2:(w.alloc (.cells cs 5)).cell? ⟨b,1,none⟩=some (.slice none 0 0):=by rw [cell_heap hb2]; rfl
  have f2:(w.alloc (.cells cs 5)).frozen? ⟨b,1,none⟩=false:=Lib.frozen_of_heap hb2 1
  have hcopy:∀ W:World,(Builtin.copy_ #[218,218] 3 #[.slice (some ⟨w.heap.size,0,none⟩) 0 cs.size,.slice none 0 0]).run Tryz.prog W=.ok (goInt 0) W:=
    fun W=>run_copy_none W 218 218 3 5 _ _ 0 cs.size 0 0 Tryz.underlying218 (by kernel_rfl) rfl
  clear hw hb2
  have hfin:=grown_m (cs:=cs) hB hbk hBw (hmax (by unfold maxLen; omega))
  have HFIN:Hid _:=hfin
  clear hfin
  go_enter Tryz.func234,Tryz.ntmps234
  go_wp2
  go_region
  all_goals (go_wp2; go_end0; exact ⟨rfl,HFIN.out⟩)
set_option maxHeartbeats 1000000 in
set_option maxRecDepth 1000000 in
theorem Grow_fresh (B b n:Nat) (w:World) (hB:B ≤ b) (hbk:w.heap[b]?=some (.cells #[.pointer none,.slice none 0 0] 419 (0,0))) (hBw:B ≤ w.heap.size) (hn0:0 < n) (hn:n ≤ 281474976710656) :
    Calls Tryz.prog 195 #[.pointer (some ⟨b,0,none⟩),.int .i64 n] w fun e w'=>e=.returned (.tuple #[])∧(MakerAt B b [] w'∧Below B w w'):=by
  have hc:=copyCheck_fresh b w (by rw [cell_heap hbk]; rfl) (by simp [World.shape?,hbk]) (Lib.frozen_of_heap hbk 0)
  have hbk1:(w.setCell ⟨b,0,none⟩ (.pointer (some ⟨b,0,none⟩))).heap[b]?=some (.cells (mcells b (.slice none 0 0)) 419 (0,0)):=by
    simp [World.setCell,Array.getElem?_modify,hbk,mcells]
  have hb1:Below B w (w.setCell ⟨b,0,none⟩ (.pointer (some ⟨b,0,none⟩))):=(Below.refl B w).setCell (p:=⟨b,0,none⟩) hB _
  have hsz:(w.setCell ⟨b,0,none⟩ (.pointer (some ⟨b,0,none⟩))).heap.size=w.heap.size:=by simp [World.setCell]
  generalize w.setCell ⟨b,0,none⟩ (.pointer (some ⟨b,0,none⟩))=W1 at *
  have c1:W1.cell? ⟨b,1,none⟩=some (.slice none 0 0):=by rw [cell_heap hbk1]; rfl
  have HGR:Hid (∀ k,Calls Tryz.prog 234 #[.pointer (some ⟨b,0,none⟩),.int .i64 n] (W1.drewN k) fun e w'=>e=.returned (.tuple #[])∧(MakerAt B b [] w'∧Below B (W1.drewN k) w')):=fun k=>grow_fresh B b n (W1.drewN k) hB hbk1 (by show B ≤ W1.heap.size; omega) hn
  have HB1:Hid (Below B w W1):=hb1
  have hnz:(0:Int) < (n:Int):=by omega
  have hcap:∀ x:Int,x < (n:Int) → True:=fun _ _=>trivial
  clear hbk1 hb1 hbk hcap
  go_enter Tryz.func195,Tryz.ntmps195
  go_wp2_with fail
  refine hc.mono ?_
  rintro e w1 ⟨rfl,hw1⟩
  subst w1
  go_wp2
  go_quiet (fail)
  go_wp2_with fail
  refine (HGR.out _).mono ?_
  rintro e w2 ⟨rfl,hm,hb2⟩
  have HM:Hid (MakerAt B b [] w2):=hm
  have HBB:Hid (Below B w w2):=(below_dn HB1.out _).trans hb2
  clear hm hb2
  go_wp2
  go_end0
  exact ⟨rfl,HM.out,HBB.out⟩
end Go.Proofs.YtiefeeoellagnaaGreatDoor.S6
