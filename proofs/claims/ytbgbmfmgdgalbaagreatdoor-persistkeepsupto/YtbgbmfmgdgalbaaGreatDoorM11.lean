import Derived.Test.YtbgbmfmgdgalbaaGreatDoorM10
import Derived.Shelf.Spec.SlicesInsert
import Derived.Lib.AppendZerosOnto
import Derived.ArgAppend
namespace Go.Proofs.YtbgbmfmgdgalbaaGreatDoor
open Go.RowKit Go.Maps
set_option linter.unusedVariables false
set_option linter.unusedSimpArgs false
theorem spl_get (cur:Array Value) (o:Nat) (vs:List Value) (j:Nat) (h:o + vs.length ≤ cur.size):(spl cur o vs)[j]?=if j < o then cur[j]? else if j < o + vs.length then vs[j - o]? else cur[j]?:=by
  unfold spl
  have hl:(cur.toList.take o).length=o:=by simp; omega
  rw [List.getElem?_toArray,List.getElem?_append,hl]
  by_cases h1:j < o
  · rw [if_pos h1,if_pos h1,List.getElem?_take_of_lt h1,Array.getElem?_toList]
  · rw [if_neg h1,if_neg h1,List.getElem?_append]
    by_cases h2:j < o + vs.length
    · rw [if_pos (by omega),if_pos h2]
    · rw [if_neg (by omega),if_neg h2,List.getElem?_drop,Array.getElem?_toList]
      congr 1; omega
theorem flq_len (l:List Pq):(plnE.fl l).length=l.length * 3:=ET.fl_len plnOk l
theorem flq_one (l:List Pq):∀ u ∈ plnE.fl l,u.oneCell'=true:=ET.fl_one plnOk l
theorem flq_app (a b:List Pq):plnE.fl (a ++ b)=plnE.fl a ++ plnE.fl b:=ET.fl_app a b
theorem flq_take (l:List Pq) (i:Nat) (h:i ≤ l.length):plnE.fl (l.take i)=(plnE.fl l).take (i * 3):=by
  conv=>rhs; rw [← List.take_append_drop i l,flq_app]
  rw [List.take_left' (by rw [flq_len,List.length_take]; omega)]
theorem flq_drop (l:List Pq) (i:Nat) (h:i ≤ l.length):plnE.fl (l.drop i)=(plnE.fl l).drop (i * 3):=by
  conv=>rhs; rw [← List.take_append_drop i l,flq_app]
  rw [List.drop_left' (by rw [flq_len,List.length_take]; omega)]
structure PX (W:World) (E o c:Nat) (l:List Pq):Prop where
  row:∃ cur,W.heap[E]?=some (.cells cur 91)∧(o + c) * 3 ≤ cur.size∧∀ j u,(plnE.fl l)[j]?=some u → cur[o * 3 + j]?=some u
  le:l.length ≤ c
  max:o + c ≤ 9223372036854775807
theorem PX.prow {W:World} {E o c:Nat} {l:List Pq} (h:PX W E o c l):PRow W (.slice (some ⟨E,o * 3,none⟩) l.length c) l:=by
  obtain ⟨cur,h1,h2,h3⟩:=h.row
  exact Or.inr ⟨E,o,c,cur,rfl,h1,h2,h.le,h.max,h3⟩
theorem PRow.px {W:World} {v:Value} {l:List Pq} (h:PRow W v l):(v=.slice none 0 0∧l=[]) ∨ ∃ E o c,v=.slice (some ⟨E,o * 3,none⟩) l.length c∧PX W E o c l:=by
  rcases h with h | ⟨E,o,c,cur,rfl,h1,h2,h3,h4,h5⟩
  · exact Or.inl h
  · exact Or.inr ⟨E,o,c,rfl,⟨cur,h1,h2,h5⟩,h3,h4⟩
theorem own_prow {W:World} {b0 n:Nat} {v:Value} {l:List Pq} (h:W.ownsRow b0 91 3 v n (plnE.fl l)) (hn:n=l.length):PRow W v l:=by
  subst hn
  obtain ⟨_,⟨h1,h2⟩ | ⟨g,cap,cur,h1,hb,hg,q1,q2,q3,q4⟩⟩:=h
  · exact Or.inl ⟨h1,List.length_eq_zero_iff.1 h2⟩
  · refine Or.inr ⟨g,0,cap,cur,h1,hg,by omega,q1,by unfold maxLen at q2; omega,fun j u hj=>?_⟩
    have hl:=(List.getElem?_eq_some_iff.1 hj).1
    rw [flq_len] at hl
    rw [Nat.zero_mul,Nat.zero_add,← Array.getElem?_toList,← List.getElem?_take_of_lt hl,q4,hj]
theorem PX.lt {W:World} {E o c:Nat} {l:List Pq} (h:PX W E o c l):E < W.heap.size:=by obtain ⟨cur,h1,_⟩:=h.row; exact row_lt h1
theorem PX.same {W W':World} {E o c:Nat} {l:List Pq} (h:PX W E o c l) (hb:W'.heap[E]?=W.heap[E]?):PX W' E o c l:=by
  obtain ⟨cur,h1,h2⟩:=h.row
  exact ⟨⟨cur,hb.trans h1,h2⟩,h.le,h.max⟩
theorem PX.on {W W':World} {E o c:Nat} {l:List Pq} (h:PX W E o c l) (hb:Below W.heap.size W W'):PX W' E o c l:=h.same (hb.block E h.lt)
theorem PX.dropAt {w:World} {E o c:Nat} {l:List Pq} (h:PX w E o c l) (j:Nat) (hj:j ≤ l.length):∀ t v,(plnE.fl (l.drop j))[t]?=some v → w.cell? ((⟨E,o * 3 + j * 3,none⟩:Addr).add t)=some v:=fun t v ht=>by
  obtain ⟨cur,h1,h2,h3⟩:=h.row
  rw [flq_drop l j hj,List.getElem?_drop] at ht
  rw [Addr.add_lit,cell_of_row _ _ _ _ _ _ h1,Nat.add_assoc]
  exact h3 _ _ ht
theorem PX.takeAt {w:World} {E o c:Nat} {l:List Pq} (h:PX w E o c l) (i:Nat) (hi:i ≤ l.length):∀ t v,(plnE.fl (l.take i))[t]?=some v → w.cell? ((⟨E,o * 3,none⟩:Addr).add t)=some v:=fun t v ht=>by
  obtain ⟨cur,h1,h2,h3⟩:=h.row
  have hl:=(List.getElem?_eq_some_iff.1 ht).1
  rw [flq_len,List.length_take] at hl
  rw [flq_take l i hi,List.getElem?_take_of_lt (by omega)] at ht
  rw [Addr.add_lit,cell_of_row _ _ _ _ _ _ h1]
  exact h3 _ _ ht
theorem PX.ins {W:World} {E o c:Nat} {l:List Pq} {p:Pq} {cur:Array Value} {i:Nat} (hi:i ≤ l.length) (hr:l.length + 1 ≤ c) (hm:o + c ≤ 9223372036854775807) (hs:(o + c) * 3 ≤ cur.size) (h3:∀ j u,(plnE.fl l)[j]?=some u → cur[o * 3 + j]?=some u)
    (hW:W.heap[E]?=some (.cells (spl (spl cur (o * 3 + (i + 1) * 3) (plnE.fl (l.drop i))) (o * 3 + i * 3) (plnE.enc p)) 91)):PX W E o c (l.take i ++ p :: l.drop i):=by
  have hd:(plnE.fl (l.drop i)).length=(l.length - i) * 3:=by rw [flq_len,List.length_drop]
  have hp:(plnE.enc p).length=3:=rfl
  have hz1:(o * 3 + (i + 1) * 3) + (plnE.fl (l.drop i)).length ≤ cur.size:=by rw [hd]; omega
  have hs1:=spl_size cur _ _ hz1
  have hz2:(o * 3 + i * 3) + (plnE.enc p).length ≤ (spl cur (o * 3 + (i + 1) * 3) (plnE.fl (l.drop i))).size:=by rw [hs1,hp]; omega
  refine ⟨⟨_,hW,by rw [spl_size _ _ _ hz2,hs1]; exact hs,fun j u hj=>?_⟩,by simp; omega,hm⟩
  have hf:plnE.fl (l.take i ++ p :: l.drop i)=plnE.fl (l.take i) ++ (plnE.enc p ++ plnE.fl (l.drop i)):=by rw [flq_app,fl_cons]; rfl
  have ht:(plnE.fl (l.take i)).length=i * 3:=by rw [flq_len,List.length_take]; omega
  rw [hf,List.getElem?_append,ht] at hj
  rw [spl_get _ _ _ _ hz2,spl_get _ _ _ _ hz1,hp,hd]
  by_cases h1:j < i * 3
  · rw [if_pos h1,flq_take l i hi,List.getElem?_take_of_lt h1] at hj
    rw [if_pos (by omega),if_pos (by omega)]
    exact h3 j u hj
  · rw [if_neg h1,List.getElem?_append,hp] at hj
    by_cases h2:j - i * 3 < 3
    · rw [if_pos h2] at hj
      rw [if_neg (by omega),if_pos (by omega),← hj]
      congr 1; omega
    · rw [if_neg h2] at hj
      have hl:=(List.getElem?_eq_some_iff.1 hj).1
      rw [hd] at hl
      rw [if_neg (by omega),if_neg (by omega),if_neg (by omega),if_pos (by omega),← hj]
      congr 1; omega
theorem PX.fill {W:World} {E c:Nat} {l:List Pq} {p:Pq} {cur:Array Value} {i:Nat} (hi:i ≤ l.length) (hr:l.length + 1 ≤ c) (hm:c ≤ 9223372036854775807) (hs:c * 3 ≤ cur.size) (h3:∀ (j:Nat) (u:Value),(plnE.fl (l.take i))[j]?=some u → cur[j]?=some u)
    (hW:W.heap[E]?=some (.cells (spl (spl cur (i * 3) (plnE.enc p)) ((i + 1) * 3) (plnE.fl (l.drop i))) 91)):PX W E 0 c (l.take i ++ p :: l.drop i):=by
  have hd:(plnE.fl (l.drop i)).length=(l.length - i) * 3:=by rw [flq_len,List.length_drop]
  have hp:(plnE.enc p).length=3:=rfl
  have hz1:(i * 3) + (plnE.enc p).length ≤ cur.size:=by rw [hp]; omega
  have hs1:=spl_size cur _ _ hz1
  have hz2:((i + 1) * 3) + (plnE.fl (l.drop i)).length ≤ (spl cur (i * 3) (plnE.enc p)).size:=by rw [hs1,hd]; omega
  refine ⟨⟨_,hW,by rw [spl_size _ _ _ hz2,hs1]; omega,fun j u hj=>?_⟩,by simp; omega,by omega⟩
  have hf:plnE.fl (l.take i ++ p :: l.drop i)=plnE.fl (l.take i) ++ (plnE.enc p ++ plnE.fl (l.drop i)):=by rw [flq_app,fl_cons]; rfl
  have ht:(plnE.fl (l.take i)).length=i * 3:=by rw [flq_len,List.length_take]; omega
  rw [hf,List.getElem?_append,ht] at hj
  rw [spl_get _ _ _ _ hz2,spl_get _ _ _ _ hz1,hp,hd]
  by_cases h1:j < i * 3
  · rw [if_pos h1] at hj
    rw [if_pos (by omega),if_pos (by omega),Nat.zero_mul,Nat.zero_add]
    exact h3 j u hj
  · rw [if_neg h1,List.getElem?_append,hp] at hj
    by_cases h2:j - i * 3 < 3
    · rw [if_pos h2] at hj
      rw [if_pos (by omega),if_neg (by omega),if_pos (by omega),← hj]
      congr 1; omega
    · rw [if_neg h2] at hj
      have hl:=(List.getElem?_eq_some_iff.1 hj).1
      rw [hd] at hl
      rw [if_neg (by omega),if_pos (by omega),← hj]
      congr 1; omega
theorem infoP:(Tryz.prog.info? 91).map (fun i=>(i.zero,i.size,i.bytes))=some (some (.agg #[.int .i64 0,.bool false,.nilFunc]),3,24):=by kernel_rfl
theorem run_copyP (w:World) (ty:TypeId) (b o dLen dCap:Nat) (a:Addr) (sLen sCap:Nat) (cs:List Value) (hn:cs.length=Nat.min sLen dLen * 3)
    (hsrc:∀ j v,cs[j]?=some v → w.cell? (a.add j)=some v) (hc:∀ j,j < cs.length → (w.cell? ⟨b,o + j,none⟩).isSome=true) (hf:∀ j,j < cs.length → w.frozen? ⟨b,o + j,none⟩=false) (h1:∀ v ∈ cs,v.oneCell'=true) :
    (Builtin.copy_ #[72,72] ty #[.slice (some ⟨b,o,none⟩) dLen dCap,.slice (some a) sLen sCap]).run Tryz.prog w=.ok (goInt (Nat.min sLen dLen)) (w.setCells b o cs):=by
  obtain ⟨i0,hi,hz0,hz1,hz2⟩:=info_parts infoP
  have hl:=run_loadCells_list (P:=Tryz.prog) w a cs hsrc
  have hst:=run_storeCells_cells (P:=Tryz.prog) b o cs 0 w (by simpa using hc) (by simpa using hf) h1
  simp [Builtin.copy_,run_underlying Tryz.underlying72,Builtin.lenOf,Builtin.firstCells,sizeOf,typeInfo,hi,hz1,← hn,hl,hst]
theorem sizeQ (w:World):(Go.sizeOf 91).run Tryz.prog w=.ok 3 w:=by
  obtain ⟨i0,hi,hz0,hz1,hz2⟩:=info_parts infoP
  simp [sizeOf,typeInfo,hi,hz1,go_sem]
theorem shape_row {w:World} {g T:Nat} {cur:Array Value} (h:w.heap[g]?=some (.cells cur T)):w.shape? g=some (T,cur.size):=by
  unfold World.shape?; rw [h]
theorem overlapsP (w:World) (X E la ca lb cb:Nat) (p o:Nat) (hne:X ≠ E) (cx ce:Array Value) (hX:w.heap[X]?=some (.cells cx 91)) (hE:w.heap[E]?=some (.cells ce 91)) (hce:ce.size ≠ 0) :
    (callFunc 122 #[.slice (some ⟨X,p,none⟩) la ca,.slice (some ⟨E,o,none⟩) lb cb]).run Tryz.prog w=.ok (.value (.bool false)) w:=by
  rw [run_callFunc_extern Tryz.func122 (by kernel_rfl) (by kernel_rfl) (by kernel_rfl) (e:=Extern.SlicesOverlaps.overlaps #[72,72] #[4]) (by kernel_rfl),
    Lib.run_overlaps_apart w 72 4 91 Tryz.underlying72 3 sizeQ ⟨X,p,none⟩ ⟨E,o,none⟩ la ca lb cb hne 91 91 cx.size ce.size (shape_row hX) (shape_row hE) hce (frozen_of_row _ _ _ _ _ hX) (frozen_of_row _ _ _ _ _ hX)]
  rfl
def InsP (w:World) (qv:Value) (l':List Pq) (e:Ending) (w':World):Prop:=∃ v',e=.returned v'∧PRow w' v' l'∧ModP (fun k=>qv.ownBlock=some k) w w'∧∀ k,v'.ownBlock=some k → qv.ownBlock=some k ∨ w.heap.size ≤ k
theorem ModP.grownV {w w':World} {v:Value} (h:w.grownBy w' v.ownBlock):ModP (fun k=>v.ownBlock=some k) w w':=⟨h.os,h.tape,h.output,h.size,fun k hk hn=>h.block k hk (fun e=>hn e.symm)⟩
end Go.Proofs.YtbgbmfmgdgalbaaGreatDoor
namespace Go.Proofs.YtbgbmfmgdgalbaaGreatDoor
open Go.RowKit Go.Maps
set_option linter.unusedVariables false
set_option linter.unusedSimpArgs false
theorem fl_sing (p:Pq):plnE.fl [p]=plnE.enc p:=by rw [fl_cons]; rfl
theorem PX.prow' {W:World} {E o c n:Nat} {l:List Pq} (h:PX W E o c l) (hn:n=l.length):PRow W (.slice (some ⟨E,o * 3,none⟩) n c) l:=by subst hn; exact h.prow
theorem ins_len (l:List Pq) (p:Pq) (i:Nat) (hi:i ≤ l.length):(l.take i ++ p :: l.drop i).length=l.length + 1:=by simp; omega
theorem ins_all (l:List Pq) (p:Pq):l.take l.length ++ p :: l.drop l.length=l ++ [p]:=by simp
theorem encAt {w:World} {X:Nat} {p:Pq} (hX:w.heap[X]?=some (.cells #[.int .i64 (p.s:Int),.bool p.c,meetV p] 91)):∀ j u,(plnE.enc p)[j]?=some u → w.cell? ((⟨X,0,none⟩:Addr).add j)=some u:=fun j u hj=>by
  rw [Addr.add_lit,cell_of_row _ _ _ _ _ _ hX,Nat.zero_add]
  rw [← hj,← Array.getElem?_toList]; rfl
theorem enc_one (p:Pq):∀ u ∈ plnE.enc p,u.oneCell'=true:=plnOk.one p
set_option maxHeartbeats 4000000 in
set_option maxRecDepth 100000 in
theorem insE_nil (X vc:Nat) (p:Pq) (w:World) (hX:w.heap[X]?=some (.cells #[.int .i64 (p.s:Int),.bool p.c,meetV p] 91)) :
    Calls Tryz.prog 81 #[.slice none 0 0,.int .i64 0,.slice (some ⟨X,0,none⟩) 1 vc] w fun r w'=>InsP w (.slice none 0 0) [p] r w':=by
  obtain ⟨i0,hi0,hz0,hz1,hz2⟩:=info_parts infoP
  have HN:Hid _:=encAt hX
  have h1c:=enc_one p
  have hel:(plnE.enc p).length=1 * 3:=rfl
  have HFL:Hid (plnE.enc p=plnE.fl [p]):=(fl_sing p).symm
  clear hX
  generalize plnE.enc p=vs at *
  go_enter Tryz.func81,Tryz.ntmps81
  go_upto_region 7 with fail
  go_wp2_with (at_builtin; go_must (refine wpList_append_grows _ rfl _ _ 72 rfl 91 i0 (.agg #[.int .i64 0,.bool false,.nilFunc]) 3 24 Tryz.underlying72 hi0 hz0 hz1 hz2 rfl (by decide) none 0 0 [] rfl (fun _=>⟨rfl,rfl⟩) rfl (fun b h=>by cases h) ⟨X,0,none⟩ 1 vc vs rfl hel HN.out h1c (by omega) (by unfold maxLen; omega) (by omega) ?_))
  intro v' w1 hown hgr
  rw [HFL.out] at hown
  have HR:Hid (InsP w (.slice none 0 0) [p] (.returned v') w1):=⟨v',rfl,own_prow hown rfl,ModP.grownV (v:=.slice none 0 0) hgr,fun k hk=>Or.inr (by
    obtain ⟨_,⟨h1,h2⟩ | ⟨g,cap,cur,rfl,hb,_⟩⟩:=hown
    · rw [h1] at hk; cases hk
    · cases hk; exact hb)⟩
  clear hown hgr
  go_wp2
  go_returns
  exact HR.out
set_option maxHeartbeats 4000000 in
set_option maxRecDepth 100000 in
theorem insE_fit (X vc:Nat) (p:Pq) (E o c:Nat) (l:List Pq) (w:World) (hB:PX w E o c l) (hl:l.length ≤ 3298534883328) (hroom:l.length + 1 ≤ c) (hX:w.heap[X]?=some (.cells #[.int .i64 (p.s:Int),.bool p.c,meetV p] 91)) :
    Calls Tryz.prog 81 #[.slice (some ⟨E,o * 3,none⟩) l.length c,.int .i64 (l.length:Int),.slice (some ⟨X,0,none⟩) 1 vc] w fun r w'=>InsP w (.slice (some ⟨E,o * 3,none⟩) l.length c) (l ++ [p]) r w':=by
  obtain ⟨i0,hi0,hz0,hz1,hz2⟩:=info_parts infoP
  obtain ⟨cur,h1,h2,h3⟩:=hB.row
  have hmx:=hB.max
  have hel:(plnE.enc p).length=3:=rfl
  have HRUN:Hid (∀ ty,(Builtin.append_ #[72,72] ty #[.slice (some ⟨E,o * 3,none⟩) l.length c,.slice (some ⟨X,0,none⟩) 1 vc]).run Tryz.prog w=.ok (.slice (some ⟨E,o * 3,none⟩) (l.length + 1) c) (w.setCells E (o * 3 + l.length * 3) (plnE.enc p))):=fun ty=>by
    have:=run_append_room_cells (P:=Tryz.prog) w 72 ty 91 i0 Tryz.underlying72 hi0 E (o * 3) l.length c ⟨X,0,none⟩ 1 vc (plnE.enc p) (by rw [hz1]; rfl) (encAt hX) (enc_one p) hroom (fun j hj=>by rw [hz1,cell_of_row _ _ _ _ _ _ h1,Array.getElem?_eq_getElem (by rw [hel] at hj; omega)]; rfl) (fun j hj=>frozen_of_row _ _ _ _ _ h1)
    rw [hz1] at this; exact this
  have HR:Hid (InsP w (.slice (some ⟨E,o * 3,none⟩) l.length c) (l ++ [p]) (.returned (.slice (some ⟨E,o * 3,none⟩) (l.length + 1) c)) (w.setCells E (o * 3 + l.length * 3) (plnE.enc p))):=by
    have hh:=heap_cells E _ (plnE.enc p) (o * 3 + l.length * 3) w cur h1 (by rw [hel]; omega)
    have hP:=PX.ins (p:=p) (Nat.le_refl l.length) hroom hmx h2 h3 (W:=w.setCells E (o * 3 + l.length * 3) (plnE.enc p)) (E:=E) (by rw [List.drop_length,show plnE.fl []=[] from rfl,spl_nil]; exact hh)
    rw [ins_all] at hP
    exact ⟨_,rfl,hP.prow' (by simp),ModP.only (grown_only E _ _ w) rfl,fun k hk=>Or.inl hk⟩
  have hn1:¬ ((1:Int)=0):=by omega
  obtain ⟨n,hn⟩:∃ n,l.length=n:=⟨_,rfl⟩
  rw [hn] at HRUN HR hl hroom ⊢
  generalize plnE.enc p=vs at *
  clear h1 h2 h3 hB hX hi0 hz0 hz1 hz2 hel hn
  go_enter Tryz.func81,Tryz.ntmps81
  go_upto_region 7 with fail
  all_goals
    go_wp2_with (at_builtin; go_must (refine Lib.wpList_append_run _ rfl _ _ 72 72 rfl (.slice (some ⟨E,o * 3,none⟩) n c) (.slice (some ⟨X,0,none⟩) 1 vc) ?a1 ?a2 _ _ (HRUN.out _) ?_))
    case a1=>rfl
    case a2=>rfl
    go_wp2
    go_returns
    exact HR.out
set_option maxHeartbeats 4000000 in
set_option maxRecDepth 100000 in
theorem insE_grow (X vc:Nat) (p:Pq) (E o c:Nat) (l:List Pq) (w:World) (hB:PX w E o c l) (hl:l.length ≤ 3298534883328) (hroom:c < l.length + 1) (hX:w.heap[X]?=some (.cells #[.int .i64 (p.s:Int),.bool p.c,meetV p] 91)) :
    Calls Tryz.prog 81 #[.slice (some ⟨E,o * 3,none⟩) l.length c,.int .i64 (l.length:Int),.slice (some ⟨X,0,none⟩) 1 vc] w fun r w'=>InsP w (.slice (some ⟨E,o * 3,none⟩) l.length c) (l ++ [p]) r w':=by
  obtain ⟨i0,hi0,hz0,hz1,hz2⟩:=info_parts infoP
  have hmx:=hB.max
  have hle:=hB.le
  have HN:Hid _:=encAt hX
  have h1c:=enc_one p
  have hel:(plnE.enc p).length=1 * 3:=rfl
  have HFL:Hid (plnE.fl l ++ plnE.enc p=plnE.fl (l ++ [p])):=by show _=_; rw [flq_app,fl_sing]
  have HOL:Hid (∀ b,some (⟨E,o * 3,none⟩:Addr)=some b → ∀ j u,(plnE.fl l)[j]?=some u → w.cell? (b.add j)=some u):=fun b hb j u hj=>by
    cases hb
    have:=hB.takeAt l.length (Nat.le_refl _) j u (by rw [List.take_length]; exact hj)
    exact this
  have hfi:(plnE.fl l).length=l.length * 3:=flq_len l
  have HLN:Hid ((l ++ [p]).length=l.length + 1):=by show _=_; simp
  obtain ⟨n,hn⟩:∃ n,l.length=n:=⟨_,rfl⟩
  rw [hn] at hfi hl hroom HLN hle ⊢
  generalize plnE.enc p=vs at *
  generalize plnE.fl l=xs at *
  clear hX hB hn
  go_enter Tryz.func81,Tryz.ntmps81
  go_upto_region 7 with fail
  all_goals
    go_wp2_with (at_builtin; go_must (refine wpList_append_grows _ rfl _ _ 72 rfl 91 i0 (.agg #[.int .i64 0,.bool false,.nilFunc]) 3 24 Tryz.underlying72 hi0 hz0 hz1 hz2 rfl (by decide) (some ⟨E,o * 3,none⟩) n c xs rfl (fun h=>by cases h) hfi HOL.out ⟨X,0,none⟩ 1 vc vs rfl hel HN.out h1c (by omega) (by unfold maxLen; omega) (by omega) ?_))
    intro v' w1 hown hgr
    rw [HFL.out] at hown
    have HR:Hid (InsP w (.slice (some ⟨E,o * 3,none⟩) n c) (l ++ [p]) (.returned v') w1):=⟨v',rfl,own_prow hown HLN.out.symm,ModP.grownV (v:=.slice (some ⟨E,o * 3,none⟩) n c) (grown_wide hgr),fun k hk=>Or.inr (by
      obtain ⟨_,⟨h1,h2⟩ | ⟨g,cap,cur,rfl,hb,_⟩⟩:=hown
      · rw [h1] at hk; cases hk
      · cases hk; exact hb)⟩
    clear hown hgr
    go_wp2
    go_returns
    exact HR.out
end Go.Proofs.YtbgbmfmgdgalbaaGreatDoor
namespace Go.Proofs.YtbgbmfmgdgalbaaGreatDoor
open Go.RowKit Go.Maps
set_option linter.unusedVariables false
set_option linter.unusedSimpArgs false
set_option maxHeartbeats 4000000 in
set_option maxRecDepth 100000 in
theorem ins_shift (X i vc:Nat) (p:Pq) (E o c:Nat) (l:List Pq) (hl:l.length ≤ 3298534883328) (w:World) (hB:PX w E o c l) (hi:i < l.length) (hX:w.heap[X]?=some (.cells #[.int .i64 (p.s:Int),.bool p.c,meetV p] 91)) (hXE:X ≠ E) (hroom:l.length + 1 ≤ c) :
    Calls Tryz.prog 81 #[.slice (some ⟨E,o * 3,none⟩) l.length c,.int .i64 (i:Int),.slice (some ⟨X,0,none⟩) 1 vc] w fun r w'=>InsP w (.slice (some ⟨E,o * 3,none⟩) l.length c) (l.take i ++ p :: l.drop i) r w':=by
  have hle:=hB.le
  have hcm:=hB.max
  obtain ⟨cur,h1,h2,h3⟩:=hB.row
  obtain ⟨q,hq⟩:∃ q,i + 1=q:=⟨_,rfl⟩
  obtain ⟨u,hu⟩:∃ u,l.length - i=u:=⟨_,rfl⟩
  obtain ⟨t,ht⟩:∃ t,l.length + 1=t:=⟨_,rfl⟩
  have hce:cur.size ≠ 0:=by omega
  have hov:∀ la ca lb cb,(callFunc 122 #[.slice (some ⟨X,0,none⟩) la ca,.slice (some ⟨E,o * 3 + q * 3,none⟩) lb cb]).run Tryz.prog w=.ok (.value (.bool false)) w:=fun la ca lb cb=>overlapsP w X E la ca lb cb 0 (o * 3 + q * 3) hXE _ cur hX h1 hce
  have h1d:w.drew.heap[E]?=some (.cells cur 91):=h1
  have hfl:(plnE.fl (l.drop i)).length=u * 3:=by rw [flq_len,List.length_drop,hu]
  have hel:(plnE.enc p).length=3:=rfl
  obtain ⟨k,hk⟩:∃ k,t - i=k:=⟨_,rfl⟩
  have r1:=heap_cells E _ (plnE.fl (l.drop i)) (o * 3 + q * 3) w.drew cur h1d (by rw [hfl]; omega)
  have s1:=spl_size cur (o * 3 + q * 3) (plnE.fl (l.drop i)) (by rw [hfl]; omega)
  have HRES:Hid (InsP w (.slice (some ⟨E,o * 3,none⟩) l.length c) (l.take i ++ p :: l.drop i) (.returned (.slice (some ⟨E,o * 3,none⟩) t c)) ((w.drew.setCells E (o * 3 + q * 3) (plnE.fl (l.drop i))).setCells E (o * 3 + i * 3) (plnE.enc p))):=by
    have r2:=heap_cells E _ (plnE.enc p) (o * 3 + i * 3) _ _ r1 (by rw [s1,hel]; omega)
    have hP:=PX.ins (p:=p) (i:=i) (by omega) hroom hcm h2 h3 (E:=E) (W:=(w.drew.setCells E (o * 3 + q * 3) (plnE.fl (l.drop i))).setCells E (o * 3 + i * 3) (plnE.enc p)) (by rw [hq]; exact r2)
    refine ⟨_,rfl,hP.prow' (by rw [ins_len l p i (by omega)]; omega),?_,fun k hk=>Or.inl hk⟩
    have m1:ModP (fun k=>(Value.slice (some ⟨E,o * 3,none⟩) l.length c).ownBlock=some k) w w.drew:=⟨rfl,rfl,rfl,Nat.le_refl _,fun _ _ _=>rfl⟩
    exact (m1.trans (ModP.only (grown_only E _ _ w.drew) rfl)).trans (ModP.only (grown_only E _ _ _) rfl)
  have hcp1:∀ ty dc sc,(Builtin.copy_ #[72,72] ty #[.slice (some ⟨E,o * 3 + q * 3,none⟩) u dc,.slice (some ⟨E,o * 3 + i * 3,none⟩) k sc]).run Tryz.prog w.drew=.ok (goInt (Nat.min k u)) (w.drew.setCells E (o * 3 + q * 3) (plnE.fl (l.drop i))):=fun ty dc sc =>
    run_copyP w.drew ty E (o * 3 + q * 3) u dc ⟨E,o * 3 + i * 3,none⟩ k sc (plnE.fl (l.drop i)) (by rw [hfl]; simp only [Nat.min_def]; split <;> omega) (fun k v hk=>(hB.dropAt i (by omega)) k v hk)
      (fun k hk=>by rw [cell_of_row _ _ _ _ _ _ h1d,Array.getElem?_eq_getElem (by omega)]; rfl) (fun k hk=>frozen_of_row _ _ _ _ _ h1d) (flq_one _)
  obtain ⟨W1,hW1⟩:∃ W1,W1=w.drew.setCells E (o * 3 + q * 3) (plnE.fl (l.drop i)):=⟨_,rfl⟩
  rw [← hW1] at r1 hcp1 HRES
  have hXW:W1.heap[X]?=some (.cells #[.int .i64 (p.s:Int),.bool p.c,meetV p] 91):=by rw [hW1,(grown_cells E _ _ w.drew).block X (row_lt hX) (by simpa using hXE)]; exact hX
  have hcp2:∀ ty dc,(Builtin.copy_ #[72,72] ty #[.slice (some ⟨E,o * 3 + i * 3,none⟩) k dc,.slice (some ⟨X,0,none⟩) 1 vc]).run Tryz.prog W1=.ok (goInt (Nat.min 1 k)) (W1.setCells E (o * 3 + i * 3) (plnE.enc p)):=fun ty dc =>
    run_copyP W1 ty E (o * 3 + i * 3) k dc ⟨X,0,none⟩ 1 vc (plnE.enc p) (by rw [hel]; simp only [Nat.min_def]; split <;> omega) (encAt hXW)
      (fun a ha=>by rw [hel] at ha; rw [cell_of_row _ _ _ _ _ _ r1,Array.getElem?_eq_getElem (by omega)]; rfl) (fun a ha=>frozen_of_row _ _ _ _ _ r1) (enc_one _)
  have hz2:¬ ((i:Int)=(l.length:Int)):=by omega
  have hb4:¬ (c=i):=by omega
  have hb2:¬ (c=q):=by omega
  have hw1:IntKind.i64.wrap ((i:Int) + 1)=(q:Int):=by rw [IntKind.wrap_i64] <;> omega
  have hw2:IntKind.i64.wrap ((l.length:Int) + 1)=(t:Int):=by rw [IntKind.wrap_i64] <;> omega
  have hb6:¬ ((c:Int) < (t:Int)):=by omega
  have hb7:(t:Int) ≤ (c:Int):=by omega
  have hb9:(q:Int) ≤ (t:Int):=by omega
  have hb10:(i:Int) ≤ (t:Int):=by omega
  have hqt:t - q=u:=by omega
  have hic:(i:Int) ≤ (c:Int):=by omega
  have hin:(i:Int) ≤ (l.length:Int):=by omega
  have mixed:Tryz.prog.follows Departure.mixedOrders=true:=by kernel_rfl
  clear h1 h1d r1 hXW hB hX h3
  subst hW1
  go_enter Tryz.func81,Tryz.ntmps81
  go_wp2_with (simp only [hov])
  go_region_law_o (refine step_copy_runI rfl _ _ 72 72 rfl _ _ (by simp [Act.eval,Act.put]) (by simp [Act.eval,Act.put]) (hcp1 _ _ _) ?_)
  go_wp2
  go_returns
  exact HRES.out
end Go.Proofs.YtbgbmfmgdgalbaaGreatDoor
