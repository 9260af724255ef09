import Derived.Test.YtijambehfobopaaGreatDoorWAF
import Derived.ArgAppend
import Derived.Test.YtijambehfobopaaGreatDoorWAP
import Derived.BigQuiet
import Derived.Laws.AppendOwn
import Derived.Deep.RegionWith
namespace Go.Proofs.YtijambehfobopaaGreatDoor
open Go.RowKit
set_option linter.unusedVariables false
set_option linter.unusedSimpArgs false
def Seg (W:World) (E o:Nat) (ns:List Nd):Prop:=∀ j u,(flatN ns)[j]?=some u → W.cell? ⟨E,o * 3 + j,none⟩=some u
def LV (W:World) (b0:Nat) (v:Value) (ns:List Nd):Prop:=(v=.slice none 0 0∧ns=[]) ∨ ∃ E o c cur,v=.slice (some ⟨E,o * 3,none⟩) ns.length c∧b0 ≤ E∧W.heap[E]?=some (.cells cur 55)∧cur.size=(o + c) * 3∧ns.length ≤ c∧c ≤ maxLen∧Seg W E o ns
def InsP (w w':World) (lv:Value) (ns:List Nd) (v:Nd) (v':Value):Prop:=
  (∃ E o c,lv=.slice (some ⟨E,o * 3,none⟩) ns.length c∧ns.length + 1 ≤ c∧v'=.slice (some ⟨E,o * 3,none⟩) (ns.length + 1) c∧w'=w.setCells E (o * 3 + ns.length * 3) (flatN [v])) ∨
  (w'.ownsRow w.heap.size 55 3 v' (ns.length + 1) (flatN ns ++ flatN [v])∧w.grownBy w' none)
set_option maxHeartbeats 4000000 in
set_option maxRecDepth 100000 in
theorem insE (b0 X vc:Nat) (v:Nd) (lv:Value) (ns:List Nd) (hl:ns.length ≤ 1073741824) (w:World) (hB:LV w b0 lv ns) (hX:VX w X [v]) :
    Calls Tryz.prog 91 #[lv,.int .i64 (ns.length:Int),.slice (some ⟨X,0,none⟩) 1 vc] w fun r w'=>∃ v',r=.returned v'∧InsP w w' lv ns v v':=by
  obtain ⟨i0,hi0,hz0,hz1,hz2⟩:=info_parts infoN
  have HN:Hid _:=hX.cells
  have h1c:∀ u ∈ flatN [v],u.oneCell'=true:=flatN_one [v]
  rcases hB with ⟨rfl,rfl⟩ | ⟨E,o,c,cur,rfl,hbE,hcur,hsz,hle,hmx,hseg⟩
  · clear hX
    go_enter Tryz.func91,Tryz.ntmps91
    go_upto_region 7 with fail
    go_wp2_with (at_builtin; go_must (refine wpList_append_grows _ rfl _ _ 67 rfl 55 i0 (.agg #[.string ⟨#[]⟩,.int .i64 0,.bool false]) 3 32 Tryz.underlying67 hi0 hz0 hz1 hz2 rfl (by decide) none 0 0 [] rfl (fun _=>⟨rfl,rfl⟩) rfl (fun b h=>by cases h) ⟨X,0,none⟩ 1 vc (flatN [v]) rfl (flatN_len [v]) HN.out h1c (by omega) (by unfold maxLen; omega) (by omega) ?_))
    intro v' w1 hown hgr
    have HR:Hid (InsP w w1 (.slice none 0 0) [] v v'):=Or.inr ⟨hown,hgr⟩
    clear hown hgr
    go_wp2
    go_returns
    exact ⟨_,rfl,HR.out⟩
  · have HSP:Hid (ns.length + 1 ≤ c → ∀ j,j < (flatN [v]).length → (w.cell? ⟨E,o * 3 + ns.length * 3 + j,none⟩).isSome=true∧w.frozen? ⟨E,o * 3 + ns.length * 3 + j,none⟩=false):=fun hr j hj=>by
      rw [flatN_len] at hj
      simp at hj
      refine ⟨?_,frozen_of_row _ _ _ _ _ hcur⟩
      rw [cell_of_row _ _ _ _ _ _ hcur]
      have:o * 3 + ns.length * 3 + j < cur.size:=by rw [hsz]; omega
      simp [this]
    have HSG:Hid (∀ j u,(flatN ns)[j]?=some u → w.cell? ⟨E,o * 3 + j,none⟩=some u):=hseg
    obtain ⟨O,hO⟩:∃ O,o * 3=O:=⟨_,rfl⟩
    have HO:Hid (o * 3=O):=hO
    rw [hO] at HSP HSG
    rw [hO]
    have hfi:(flatN ns).length=ns.length * 3:=flatN_len ns
    have hr1:ns.length + 1 ≤ 1073741825:=by omega
    clear hX hcur hseg hsz hO
    by_cases hroom:ns.length + 1 ≤ c
    · have hcn:¬ (c=ns.length):=by omega
      go_enter Tryz.func91,Tryz.ntmps91
      go_upto_region 7 with fail
      go_wp2_with (at_builtin; go_must (refine wpList_append_arg w rfl _ _ 67 rfl 55 i0 (.agg #[.string ⟨#[]⟩,.int .i64 0,.bool false]) 3 32 Tryz.underlying67 hi0 hz0 hz1 hz2 rfl (by decide) E O ns.length c (flatN ns) rfl hfi HSG.out ⟨X,0,none⟩ 1 vc (flatN [v]) rfl (flatN_len [v]) HN.out h1c HSP.out (by unfold maxLen; omega) (by omega) ?_ ?_))
      · skip
        have HR:Hid (InsP w (w.setCells E (O + ns.length * 3) (flatN [v])) (.slice (some ⟨E,O,none⟩) ns.length c) ns v (.slice (some ⟨E,O,none⟩) (ns.length + 1) c)):=Or.inl ⟨E,o,c,by rw [HO.out],hroom,by rw [HO.out],by rw [HO.out]⟩
        obtain ⟨w1,hw1⟩:∃ w1,w.setCells E (O + ns.length * 3) (flatN [v])=w1:=⟨_,rfl⟩
        rw [hw1] at HR ⊢
        clear hw1
        go_wp2
        go_returns
        exact ⟨_,rfl,HR.out⟩
      · intro hfull
        exact absurd hroom (by omega)
    · have hcn:c=ns.length:=by omega
      have HSG2:Hid (∀ b,some (⟨E,O,none⟩:Addr)=some b → ∀ j u,(flatN ns)[j]?=some u → w.cell? (b.add j)=some u):=fun b hb j u hj=>by
        cases hb; rw [Addr.add_lit]; exact HSG.out j u hj
      clear HSP hroom hmx hle
      subst hcn
      go_enter Tryz.func91,Tryz.ntmps91
      go_upto_region 7 with fail
      go_wp2_with (at_builtin; go_must (refine wpList_append_grows _ rfl _ _ 67 rfl 55 i0 (.agg #[.string ⟨#[]⟩,.int .i64 0,.bool false]) 3 32 Tryz.underlying67 hi0 hz0 hz1 hz2 rfl (by decide) (some ⟨E,O,none⟩) ns.length ns.length (flatN ns) rfl (fun h=>by cases h) hfi HSG2.out ⟨X,0,none⟩ 1 vc (flatN [v]) rfl (flatN_len [v]) HN.out h1c (by omega) (by unfold maxLen; omega) (by omega) ?_))
      intro v' w1 hown hgr
      have HR:Hid (InsP w w1 (.slice (some ⟨E,O,none⟩) ns.length ns.length) ns v v'):=Or.inr ⟨hown,hgr⟩
      clear hown hgr
      go_wp2
      go_returns
      exact ⟨_,rfl,HR.out⟩
set_option maxHeartbeats 4000000 in
set_option maxRecDepth 100000 in
theorem replE (b0 X vc:Nat) (v:Nd) (lv:Value) (ns:List Nd) (hl:ns.length ≤ 1073741824) (w:World) (hB:LV w b0 lv ns) (hX:VX w X [v]) :
    Calls Tryz.prog 54 #[lv,.int .i64 (ns.length:Int),.int .i64 (ns.length:Int),.slice (some ⟨X,0,none⟩) 1 vc] w fun r w'=>∃ v',r=.returned v'∧InsP w w' lv ns v v':=by
  have HI:Hid _:=insE b0 X vc v lv ns hl w hB hX
  rcases hB with ⟨rfl,rfl⟩ | ⟨E,o,c,cur,rfl,hbE,hcur,hsz,hle,hmx,hseg⟩
  · clear hX
    go_enter Tryz.func54,Tryz.ntmps54
    go_wp2_with fail
    refine (show Calls _ _ _ _ _ from HI.out).mono ?_
    rintro e w1 ⟨v',rfl,hp⟩
    have HP:Hid _:=hp
    clear hp
    go_wp2
    go_returns
    exact ⟨_,rfl,HP.out⟩
  · obtain ⟨O,hO⟩:∃ O,o * 3=O:=⟨_,rfl⟩
    rw [hO] at HI ⊢
    clear hX hcur hseg hsz hO
    by_cases hcn:c=ns.length
    · clear hmx hle
      subst hcn
      go_enter Tryz.func54,Tryz.ntmps54
      go_wp2_with fail
      refine (show Calls _ _ _ _ _ from HI.out).mono ?_
      rintro e w1 ⟨v',rfl,hp⟩
      have HP:Hid _:=hp
      clear hp
      go_wp2
      go_returns
      exact ⟨_,rfl,HP.out⟩
    · go_enter Tryz.func54,Tryz.ntmps54
      go_wp2_with fail
      refine (show Calls _ _ _ _ _ from HI.out).mono ?_
      rintro e w1 ⟨v',rfl,hp⟩
      have HP:Hid _:=hp
      clear hp
      go_wp2
      go_returns
      exact ⟨_,rfl,HP.out⟩
end Go.Proofs.YtijambehfobopaaGreatDoor
namespace Go.Proofs.YtijambehfobopaaGreatDoor
open Go.RowKit
set_option linter.unusedVariables false
set_option linter.unusedSimpArgs false
structure RwD where
  E:Nat
  o:Nat
  c:Nat
  ns:List Nd
def rowsC (S:List RwD):List Value:=S.flatMap fun r=>[.slice (some ⟨r.E,r.o * 3,none⟩) r.ns.length r.c,.int .i64 (cntN r.ns:Int)]
def cntS (S:List RwD):Nat:=(S.map fun r=>cntN r.ns).sum
theorem rowsC_len (S:List RwD):(rowsC S).length=S.length * 2:=by
  induction S with
  | nil=>rfl
  | cons r S ih=>simp only [rowsC,List.flatMap_cons,List.length_append,List.length_cons,List.length_nil] at *; omega
theorem rowsC_app (S T:List RwD):rowsC (S ++ T)=rowsC S ++ rowsC T:=by simp [rowsC]
theorem cntS_app (S:List RwD) (r:RwD):cntS (S ++ [r])=cntS S + cntN r.ns:=by simp [cntS]
theorem rowsC_at:∀ (S:List RwD) (i:Nat) (hi:i < S.length),(rowsC S)[i * 2]?=some (.slice (some ⟨S[i].E,S[i].o * 3,none⟩) S[i].ns.length S[i].c)∧(rowsC S)[i * 2 + 1]?=some (.int .i64 (cntN S[i].ns:Int))
  | [],i,hi=>absurd hi (Nat.not_lt_zero _)
  | r :: S,0,hi=>⟨rfl,rfl⟩
  | r :: S,i + 1,hi=>by
    have ih:=rowsC_at S i (by simpa using hi)
    have e:rowsC (r :: S)=.slice (some ⟨r.E,r.o * 3,none⟩) r.ns.length r.c :: .int .i64 (cntN r.ns:Int) :: rowsC S:=rfl
    rw [e]
    have e1:(i + 1) * 2=i * 2 + 1 + 1:=by omega
    have e2:(i + 1) * 2 + 1=i * 2 + 1 + 1 + 1:=by omega
    rw [e2,e1]
    exact ih
theorem spl_lt {cur:Array Value} {o q:Nat} {vs:List Value} (hq:q < o) (ho:o ≤ cur.size):(spl cur o vs)[q]?=cur[q]?:=by
  unfold spl
  rw [List.getElem?_toArray,List.getElem?_append_left (by rw [List.length_take,Array.length_toList]; omega),List.getElem?_take_of_lt hq,Array.getElem?_toList]
theorem spl_in {cur:Array Value} {o j:Nat} {vs:List Value} (hj:j < vs.length) (ho:o ≤ cur.size):(spl cur o vs)[o + j]?=vs[j]?:=by
  unfold spl
  have hl:(cur.toList.take o).length=o:=by rw [List.length_take,Array.length_toList]; omega
  rw [List.getElem?_toArray,List.getElem?_append_right (by omega),hl,Nat.add_sub_cancel_left,List.getElem?_append_left hj]
theorem Seg.same {W W':World} {E o:Nat} {ns:List Nd} (h:Seg W E o ns) (hb:W'.heap[E]?=W.heap[E]?):Seg W' E o ns:=fun j u hj=>by
  rw [← h j u hj]; exact World.cell?_of_block (a:=⟨E,o * 3 + j,none⟩) hb
theorem Seg.written {W:World} {E o p:Nat} {ns:List Nd} {vs:List Value} {cur:Array Value} {T:Nat} (h:Seg W E o ns) (hc:W.heap[E]?=some (.cells cur T)) (hp:o * 3 + ns.length * 3 ≤ p) (hv:p + vs.length ≤ cur.size):Seg (W.setCells E p vs) E o ns:=fun j u hj=>by
  have hl:=(List.getElem?_eq_some_iff.1 hj).1
  rw [flatN_len] at hl
  have h0:=h j u hj
  rw [cell_of_row _ _ _ _ _ _ hc] at h0
  rw [cell_of_row _ _ _ _ _ _ (heap_cells E T vs p W cur hc hv),spl_lt (by omega) (by omega)]
  exact h0
theorem Seg.of_take {W:World} {E:Nat} {ns:List Nd} {cur:Array Value} {T:Nat} (hc:W.heap[E]?=some (.cells cur T)) (ht:cur.toList.take (ns.length * 3)=flatN ns):Seg W E 0 ns:=fun j u hj=>by
  have hl:=(List.getElem?_eq_some_iff.1 hj).1
  rw [flatN_len] at hl
  rw [Nat.zero_mul,Nat.zero_add,cell_of_row _ _ _ _ _ _ hc,← Array.getElem?_toList,← List.getElem?_take_of_lt hl,ht,hj]
theorem Seg.take {W:World} {E o:Nat} {ns:List Nd} (h:Seg W E o ns) (k:Nat) (hk:k ≤ ns.length):Seg W E o (ns.take k):=fun j u hj=>by
  rw [flatN_take ns k hk,List.getElem?_take] at hj
  split at hj
  · exact h j u hj
  · cases hj
theorem Seg.drop {W:World} {E o:Nat} {ns:List Nd} (h:Seg W E o ns) (k:Nat) (hk:k ≤ ns.length):Seg W E (o + k) (ns.drop k):=fun j u hj=>by
  rw [flatN_drop ns k hk,List.getElem?_drop] at hj
  have:=h (k * 3 + j) u hj
  rw [show (o + k) * 3 + j=o * 3 + (k * 3 + j) by omega]
  exact this
theorem Seg.cells {W:World} {E o:Nat} {ns:List Nd} (h:Seg W E o ns) (t:Nat) (ht:t < ns.length):W.cell? ⟨E,(o + t) * 3,none⟩=some (.string ns[t].1)∧W.cell? ⟨E,(o + t) * 3 + 1,none⟩=some (.int .i64 (ns[t].2.1:Int))∧W.cell? ⟨E,(o + t) * 3 + 2,none⟩=some (.bool ns[t].2.2):=by
  obtain ⟨f0,f1,f2⟩:=flatN_at ns t ht
  have e0:=h _ _ f0
  have e1:=h _ _ f1
  have e2:=h _ _ f2
  rw [show o * 3 + t * 3=(o + t) * 3 by omega] at e0
  rw [show o * 3 + (t * 3 + 1)=(o + t) * 3 + 1 by omega] at e1
  rw [show o * 3 + (t * 3 + 2)=(o + t) * 3 + 2 by omega] at e2
  exact ⟨e0,e1,e2⟩
theorem LV.form {W:World} {b0:Nat} {v:Value} {ns:List Nd} (h:LV W b0 v ns):∃ P c,v=.slice P ns.length c∧ns.length ≤ c:=by
  rcases h with ⟨rfl,rfl⟩ | ⟨E,o,c,cur,rfl,_,_,_,h,_⟩
  · exact ⟨none,0,rfl,Nat.le_refl _⟩
  · exact ⟨_,c,rfl,h⟩
theorem LV.same {W W':World} {b0:Nat} {v:Value} {ns:List Nd} (h:LV W b0 v ns) (hb:∀ Y,v.ownBlock=some Y → W'.heap[Y]?=W.heap[Y]?):LV W' b0 v ns:=by
  rcases h with ⟨rfl,rfl⟩ | ⟨E,o,c,cur,rfl,h1,h2,h3,h4,h5,h6⟩
  · exact Or.inl ⟨rfl,rfl⟩
  · exact Or.inr ⟨E,o,c,cur,rfl,h1,(hb E rfl).trans h2,h3,h4,h5,h6.same (hb E rfl)⟩
theorem LV.lt {W:World} {b0:Nat} {v:Value} {ns:List Nd} (h:LV W b0 v ns) (Y:Nat) (hY:v.ownBlock=some Y):Y < W.heap.size∧b0 ≤ Y∧∃ cur,W.heap[Y]?=some (.cells cur 55):=by
  rcases h with ⟨rfl,rfl⟩ | ⟨E,o,c,cur,rfl,h1,h2,_⟩
  · cases hY
  · have:E=Y:=by simpa [Value.ownBlock] using hY
    subst this
    exact ⟨row_lt h2,h1,cur,h2⟩
theorem ownr_same {W W':World} {b T sz g n c:Nat} {xs:List Value} (h:W.ownsRow b T sz (.slice (some ⟨g,0,none⟩) n c) n xs) (hb:W'.heap[g]?=W.heap[g]?):W'.ownsRow b T sz (.slice (some ⟨g,0,none⟩) n c) n xs:=by
  obtain ⟨h1,h2⟩:=h
  refine ⟨h1,?_⟩
  rcases h2 with ⟨e,_⟩ | ⟨g',cap,cur,e,r⟩
  · cases e
  · injection e with e1 e2 e3
    injection e1 with e1
    injection e1 with e1
    subst e1; subst e3
    exact Or.inr ⟨g,c,cur,rfl,r.1,hb.trans r.2.1,r.2.2⟩
structure LM (W:World) (b0 g rb rc:Nat) (S:List RwD) (lv:Value) (E B:Nat) (ns:List Nd):Prop where
  hd:W.heap[g]?=some (.cells #[.int .i64 (E:Int),.int .i64 (B:Int),.int .i64 ((cntS S + cntN ns:Nat):Int),.slice (some ⟨rb,0,none⟩) (S.length + 1) rc] 62)
  rows:W.ownsRow b0 69 2 (.slice (some ⟨rb,0,none⟩) (S.length + 1) rc) (S.length + 1) (rowsC S ++ [lv,.int .i64 (cntN ns:Int)])
  stat:∀ r ∈ S,(∃ cur,W.heap[r.E]?=some (.cells cur 55))∧b0 ≤ r.E∧Seg W r.E r.o r.ns∧512 ≤ r.ns.length∧r.ns.length ≤ 1024
  last:LV W b0 lv ns
  apart:∀ r ∈ S,∀ Y o c,lv=.slice (some ⟨Y,o * 3,none⟩) ns.length c → r.E=Y → r.o + r.ns.length ≤ o
  hg:b0 ≤ g
section
variable {W W':World} {b0 g rb rc E B:Nat} {S:List RwD} {lv:Value} {ns:List Nd}
theorem LM.row (h:LM W b0 g rb rc S lv E B ns):∃ cur,W.heap[rb]?=some (.cells cur 69)∧b0 ≤ rb∧S.length + 1 ≤ rc∧rc ≤ maxLen∧cur.size=rc * 2∧cur.toList.take ((S.length + 1) * 2)=rowsC S ++ [lv,.int .i64 (cntN ns:Int)]:=by
  obtain ⟨h1,h2⟩:=h.rows
  rcases h2 with ⟨e,_⟩ | ⟨g',cap,cur,e,r1,r2,r3,r4,r5,r6⟩
  · cases e
  · injection e with e1 e2 e3
    injection e1 with e1
    injection e1 with e1
    subst e1; subst e3
    exact ⟨cur,r2,r1,r3,r4,r5,r6⟩
theorem LM.cellAt (h:LM W b0 g rb rc S lv E B ns) (j:Nat) (v:Value) (hj:(rowsC S ++ [lv,.int .i64 (cntN ns:Int)])[j]?=some v):W.cell? ⟨rb,j,none⟩=some v:=by
  have:=World.ownsRow.cells h.rows (g:=rb) rfl j v hj
  rwa [Addr.add_lit,Nat.zero_add] at this
theorem LM.cells (h:LM W b0 g rb rc S lv E B ns):W.cell? ⟨rb,S.length * 2,none⟩=some lv∧W.cell? ⟨rb,S.length * 2 + 1,none⟩=some (.int .i64 (cntN ns:Int))∧∀ j,W.frozen? ⟨rb,j,none⟩=false:=by
  obtain ⟨cur,r2,_⟩:=h.row
  have hl:=rowsC_len S
  refine ⟨h.cellAt _ _ ?_,h.cellAt _ _ ?_,fun j=>frozen_of_row _ _ _ _ _ r2⟩
  · rw [List.getElem?_append_right (by omega),hl,Nat.sub_self]; rfl
  · rw [List.getElem?_append_right (by omega),hl,Nat.add_sub_cancel_left]; rfl
theorem LM.cellS (h:LM W b0 g rb rc S lv E B ns) (i:Nat) (hi:i < S.length):W.cell? ⟨rb,i * 2,none⟩=some (.slice (some ⟨S[i].E,S[i].o * 3,none⟩) S[i].ns.length S[i].c)∧W.cell? ⟨rb,i * 2 + 1,none⟩=some (.int .i64 (cntN S[i].ns:Int)):=by
  have hl:=rowsC_len S
  obtain ⟨e1,e2⟩:=rowsC_at S i hi
  exact ⟨h.cellAt _ _ (by rw [List.getElem?_append_left (by omega)]; exact e1),h.cellAt _ _ (by rw [List.getElem?_append_left (by omega)]; exact e2)⟩
def LMb (g rb:Nat) (S:List RwD) (lv:Value) (k:Nat):Prop:=k=g ∨ k=rb ∨ (∃ r ∈ S,k=r.E) ∨ lv.ownBlock=some k
theorem LM.same (h:LM W b0 g rb rc S lv E B ns) (hb:∀ k,LMb g rb S lv k → W'.heap[k]?=W.heap[k]?):LM W' b0 g rb rc S lv E B ns:=
  ⟨(hb g (Or.inl rfl)).trans h.hd,ownr_same h.rows (hb rb (Or.inr (Or.inl rfl))),fun r hr=>by
    obtain ⟨⟨cur,q1⟩,q2,q3,q4⟩:=h.stat r hr
    have e:=hb r.E (Or.inr (Or.inr (Or.inl ⟨r,hr,rfl⟩)))
    exact ⟨⟨cur,e.trans q1⟩,q2,q3.same e,q4⟩,h.last.same (fun Y hY=>hb Y (Or.inr (Or.inr (Or.inr hY)))),h.apart,h.hg⟩
theorem LM.lt (h:LM W b0 g rb rc S lv E B ns) (k:Nat) (hk:LMb g rb S lv k):k < W.heap.size∧b0 ≤ k:=by
  rcases hk with rfl | rfl | ⟨r,hr,rfl⟩ | hk
  · exact ⟨row_lt h.hd,h.hg⟩
  · obtain ⟨cur,r2,r1,_⟩:=h.row; exact ⟨row_lt r2,r1⟩
  · obtain ⟨⟨cur,q1⟩,q2,_⟩:=h.stat r hr; exact ⟨row_lt q1,q2⟩
  · have:=h.last.lt k hk; exact ⟨this.1,this.2.1⟩
theorem LM.on (h:LM W b0 g rb rc S lv E B ns) (hb:Below W.heap.size W W'):LM W' b0 g rb rc S lv E B ns:=h.same (fun k hk=>hb.block k (h.lt k hk).1)
theorem LM.ne (h:LM W b0 g rb rc S lv E B ns):g ≠ rb∧(∀ Y cur,W.heap[Y]?=some (.cells cur 55) → Y ≠ g∧Y ≠ rb):=by
  obtain ⟨cur,r2,_⟩:=h.row
  refine ⟨?_,fun Y cu hY=>⟨?_,?_⟩⟩
  · rintro rfl; have q:=h.hd; rw [r2] at q; simp at q
  · rintro rfl; rw [h.hd] at hY; simp at hY
  · rintro rfl; rw [r2] at hY; simp at hY
end
end Go.Proofs.YtijambehfobopaaGreatDoor
namespace Go.Proofs.YtijambehfobopaaGreatDoor
open Go.RowKit
set_option linter.unusedVariables false
set_option linter.unusedSimpArgs false
theorem slice_inj3 {Y Y' o o' n n' c c':Nat} (h:(Value.slice (some ⟨Y,o * 3,none⟩) n c)=.slice (some ⟨Y',o' * 3,none⟩) n' c'):Y=Y'∧o=o'∧n=n'∧c=c':=by
  injection h with e1 e2 e3
  injection e1 with e1
  injection e1 with e1 e4 _
  exact ⟨e1,by omega,e2,e3⟩
theorem LV.push {a3 a4:World} {b0:Nat} {lv v':Value} {ns:List Nd} {v:Nd} (h:LV a3 b0 lv ns) (hb:b0 ≤ a3.heap.size) (hp:InsP a3 a4 lv ns v v') :
    LV a4 b0 v' (ns ++ [v])∧a3.grownBy a4 lv.ownBlock∧(∀ (Y:Nat) (cur:Array Value),a3.heap[Y]?=some (.cells cur 55) → ∃ cur':Array Value,a4.heap[Y]?=some (.cells cur' 55)) ∧
    (∀ (Y o:Nat) (nsr:List Nd),Y < a3.heap.size → Seg a3 Y o nsr → (∀ o' c',lv=.slice (some ⟨Y,o' * 3,none⟩) ns.length c' → o + nsr.length ≤ o') → Seg a4 Y o nsr) ∧
    (∀ Y o c:Nat,v'=.slice (some ⟨Y,o * 3,none⟩) (ns.length + 1) c → lv=.slice (some ⟨Y,o * 3,none⟩) ns.length c ∨ a3.heap.size ≤ Y)∧(∀ Z,v'.ownBlock=some Z → lv.ownBlock=some Z ∨ a3.heap.size ≤ Z):=by
  have hln:(ns ++ [v]).length=ns.length + 1:=by simp
  have hfl:(flatN [v]).length=3:=flatN_len [v]
  rcases hp with ⟨E,o,c,rfl,hr,rfl,rfl⟩ | ⟨hown,hgr⟩
  · rcases h with ⟨e,_⟩ | ⟨E',o',c',cur,e,h1,h2,h3,h4,h5,h6⟩
    · cases e
    obtain ⟨rfl,rfl,_,rfl⟩:=slice_inj3 e
    have hfit:o * 3 + ns.length * 3 + (flatN [v]).length ≤ cur.size:=by rw [hfl,h3]; omega
    have hc4:=heap_cells E 55 (flatN [v]) (o * 3 + ns.length * 3) a3 cur h2 hfit
    have hg4:=grown_cells E (flatN [v]) (o * 3 + ns.length * 3) a3
    refine ⟨Or.inr ⟨E,o,c,_,by rw [hln],h1,hc4,by rw [spl_size _ _ _ hfit]; exact h3,by omega,h5,?_⟩,hg4,?_,?_,?_,?_⟩
    · intro j u hj
      rw [flatN_app] at hj
      by_cases hjl:j < (flatN ns).length
      · rw [List.getElem?_append_left hjl] at hj
        exact h6.written h2 (Nat.le_refl _) hfit j u hj
      · have hj2:=(List.getElem?_eq_some_iff.1 hj).1
        rw [List.getElem?_append_right (by omega)] at hj
        have hl3:=flatN_len ns
        rw [List.length_append,hfl] at hj2
        rw [cell_of_row _ _ _ _ _ _ hc4,show o * 3 + j=o * 3 + ns.length * 3 + (j - (flatN ns).length) by omega,spl_in (by omega) (by omega)]
        exact hj
    · intro Y cu hY
      by_cases hYE:Y=E
      · subst hYE; exact ⟨_,hc4⟩
      · exact ⟨cu,(hg4.block Y (row_lt hY) (by simpa using hYE)).trans hY⟩
    · intro Y oo nsr hlt hs hap
      by_cases hYE:Y=E
      · subst hYE
        have:=hap o c rfl
        exact hs.written h2 (by omega) hfit
      · exact hs.same (hg4.block Y hlt (by simpa using hYE))
    · intro Y oo cc he
      obtain ⟨rfl,rfl,_,rfl⟩:=slice_inj3 he
      exact Or.inl rfl
    · intro Z hZ
      exact Or.inl hZ
  · obtain ⟨hl,hv⟩:=hown
    rcases hv with ⟨_,h0⟩ | ⟨E,cap,cur,rfl,h1,h2,h3,h4,h5,h6⟩
    · exact absurd h0 (by omega)
    have hgr2:a3.grownBy a4 lv.ownBlock:=grown_wide hgr
    refine ⟨Or.inr ⟨E,0,cap,cur,by rw [hln,Nat.zero_mul],by omega,h2,by rw [h5,Nat.zero_add],by omega,h4,Seg.of_take h2 (by rw [hln,flatN_app]; exact h6)⟩,hgr2,?_,?_,?_,?_⟩
    · intro Y cu hY
      exact ⟨cu,(hgr.block Y (row_lt hY) (by simp)).trans hY⟩
    · intro Y oo nsr hlt hs _
      exact hs.same (hgr.block Y hlt (by simp))
    · intro Y oo cc he
      injection he with e1 _ _
      injection e1 with e1
      injection e1 with e1 _ _
      exact Or.inr (by omega)
    · intro Z hZ
      right
      simp [Value.ownBlock] at hZ
      omega
section
variable {b0 g rb rc E B:Nat} {S:List RwD} {lv v':Value} {ns:List Nd} {v:Nd} {a3 a4:World}
theorem cntN_snoc (ns:List Nd) (v:Nd):cntN (ns ++ [v])=cntN ns + v.2.1:=by simp [cntN]
theorem LM.push (h:LM a3 b0 g rb rc S lv E B ns) (hp:InsP a3 a4 lv ns v v') :
    a4.heap[g]?=a3.heap[g]?∧a4.heap[rb]?=a3.heap[rb]?∧a3.grownBy a4 lv.ownBlock∧(∀ Z,v'.ownBlock=some Z → lv.ownBlock=some Z ∨ a3.heap.size ≤ Z) ∧
    LM (((a4.setCell ⟨rb,S.length * 2,none⟩ v').setCell ⟨rb,S.length * 2 + 1,none⟩ (.int .i64 ((cntN ns + v.2.1:Nat):Int))).setCell ⟨g,2,none⟩ (.int .i64 ((cntS S + (cntN ns + v.2.1):Nat):Int))) b0 g rb rc S v' E B (ns ++ [v]):=by
  have hb0:b0 ≤ a3.heap.size:=by have:=h.lt g (Or.inl rfl); omega
  obtain ⟨q1,q2,q3,q4,q5,q6⟩:=h.last.push hb0 hp
  obtain ⟨hgr,hnn⟩:=h.ne
  obtain ⟨cur,r2,r1,r3,r4,r5,r6⟩:=h.row
  have hng:∀ Y,lv.ownBlock=some Y → Y ≠ g∧Y ≠ rb:=fun Y hY=>by obtain ⟨_,_,cu,hc⟩:=h.last.lt Y hY; exact hnn Y cu hc
  have eg:a4.heap[g]?=a3.heap[g]?:=q2.block g (row_lt h.hd) (fun e=>(hng g e.symm).1 rfl)
  have er:a4.heap[rb]?=a3.heap[rb]?:=q2.block rb (row_lt r2) (fun e=>(hng rb e.symm).2 rfl)
  refine ⟨eg,er,q2,q6,?_⟩
  have hsl:=rowsC_len S
  obtain ⟨F,hF⟩:∃ F,((a4.setCell ⟨rb,S.length * 2,none⟩ v').setCell ⟨rb,S.length * 2 + 1,none⟩ (.int .i64 ((cntN ns + v.2.1:Nat):Int))).setCell ⟨g,2,none⟩ (.int .i64 ((cntS S + (cntN ns + v.2.1):Nat):Int))=F:=⟨_,rfl⟩
  have ho:∀ Y,Y ≠ g → Y ≠ rb → F.heap[Y]?=a4.heap[Y]?:=fun Y n1 n2=>by
    rw [← hF,heap_setCell_other _ _ _ _ n1,heap_setCell_other _ _ _ _ n2,heap_setCell_other _ _ _ _ n2]
  have hFg:F.heap[g]?=some (.cells #[.int .i64 (E:Int),.int .i64 (B:Int),.int .i64 ((cntS S + (cntN ns + v.2.1):Nat):Int),.slice (some ⟨rb,0,none⟩) (S.length + 1) rc] 62):=by
    rw [← hF,heap_setCell_same _ _ _ _ _ _ ((heap_setCell_other _ _ _ _ hgr).trans ((heap_setCell_other _ _ _ _ hgr).trans (eg.trans h.hd)))]; rfl
  have hFr:F.heap[rb]?=some (.cells ((cur.setIfInBounds (S.length * 2) v').setIfInBounds (S.length * 2 + 1) (.int .i64 ((cntN ns + v.2.1:Nat):Int))) 69):=by
    rw [← hF,heap_setCell_other _ _ _ _ (fun e=>hgr e.symm),heap_setCell_same _ _ _ _ _ _ (heap_setCell_same _ _ _ _ _ _ (er.trans r2))]
  rw [hF]
  have hnF:∀ (Y:Nat) (cu:Array Value),a4.heap[Y]?=some (.cells cu 55) → Y ≠ g∧Y ≠ rb:=fun Y cu hY=>⟨by rintro rfl; rw [eg,h.hd] at hY; simp at hY,by rintro rfl; rw [er,r2] at hY; simp at hY⟩
  refine ⟨by rw [hFg,cntN_snoc],?_,?_,?_,?_,h.hg⟩
  · refine ⟨by rw [List.length_append,hsl]; simp; omega,Or.inr ⟨rb,rc,_,rfl,r1,hFr,r3,r4,by simpa using r5,?_⟩⟩
    rw [Array.toList_setIfInBounds,Array.toList_setIfInBounds,List.take_set,List.take_set,r6,cntN_snoc,List.set_append_right _ _ (by omega),hsl,Nat.sub_self,List.set_append_right _ _ (by omega),hsl,Nat.add_sub_cancel_left]
    rfl
  · intro r hr
    obtain ⟨⟨cu,s1⟩,s2,s3,s4⟩:=h.stat r hr
    obtain ⟨cu',t1⟩:=q3 _ _ s1
    obtain ⟨n1,n2⟩:=hnF _ _ t1
    exact ⟨⟨cu',(ho _ n1 n2).trans t1⟩,s2,(q4 _ _ _ (row_lt s1) s3 (fun o' c' he=>h.apart r hr _ _ _ he rfl)).same (ho _ n1 n2),s4⟩
  · refine q1.same (fun Y hY=>?_)
    obtain ⟨_,_,cu,hc⟩:=q1.lt Y hY
    obtain ⟨n1,n2⟩:=hnF _ _ hc
    exact ho _ n1 n2
  · intro r hr Y o c he hY
    rw [List.length_append] at he
    rcases q5 Y o c he with e | e
    · exact h.apart r hr Y o c e hY
    · have:=(h.lt r.E (Or.inr (Or.inr (Or.inl ⟨r,hr,rfl⟩)))).1
      omega
end
end Go.Proofs.YtijambehfobopaaGreatDoor
namespace Go.Proofs.YtijambehfobopaaGreatDoor
open Go.RowKit
set_option linter.unusedVariables false
set_option linter.unusedSimpArgs false
section
variable {b0 g rb rc E B:Nat} {S:List RwD} {lv:Value} {ns:List Nd}
abbrev plR (m n:Nat):Value:=.agg #[.int .i64 (m:Int),.int .i64 (n:Int),.int .i64 0]
theorem gapM (hm:S.length ≤ 1073741824) (hl:ns.length ≤ 1073741824) (w:World) (h:LM w b0 g rb rc S lv E B ns):Calls Tryz.prog 22 #[ptr g,.bool false] w fun e w'=>e=.returned (plR S.length ns.length)∧Below w.heap.size w w':=by
  obtain ⟨l0,l1,l2,l3,lf⟩:=lrow4 h.hd
  obtain ⟨r0,r1,rf⟩:=h.cells
  obtain ⟨P,cc,rfl,hcc⟩:=h.last.form
  have L3:=cell_a1 l3
  have R0:=cell_a1 r0
  obtain ⟨M,hM⟩:∃ M,S.length + 1=M:=⟨_,rfl⟩
  rw [hM] at L3
  have hw:IntKind.i64.wrap ((M:Int) - 1)=(S.length:Int):=by rw [IntKind.wrap_i64] <;> omega
  have hz0:(0:Int) ≤ (S.length:Int):=by omega
  have hz1:(S.length:Int) < (M:Int):=by omega
  clear h l0 l1 l2 l3 lf r0 r1 rf
  go_enter Tryz.func22,Tryz.ntmps22
  go_wp2
  go_returns
  exact ⟨rfl,(Below.refl _ w).alloc (Nat.le_refl _) _⟩
theorem joinM_end (hm:S.length ≤ 1073741824) (w:World) (h:LM w b0 g rb rc S lv E B ns):Calls Tryz.prog 97 #[ptr g,.int .i64 (S.length:Int)] w fun e w'=>e=.returned (.tuple #[])∧Below w.heap.size w w':=by
  obtain ⟨l0,l1,l2,l3,lf⟩:=lrow4 h.hd
  obtain ⟨M,hM⟩:∃ M,S.length + 1=M:=⟨_,rfl⟩
  rw [hM] at l3
  have hw:IntKind.i64.wrap ((S.length:Int) + 1)=(M:Int):=by rw [IntKind.wrap_i64] <;> omega
  clear h
  go_enter Tryz.func97,Tryz.ntmps97
  go_wp2
  go_returns
  exact ⟨rfl,Below.refl _ _⟩
set_option maxHeartbeats 2000000 in
theorem joinM_mid (hm:S.length ≤ 1073741824) (h1:1 ≤ S.length) (hn1:1 ≤ ns.length) (hn2:ns.length ≤ 1073741824) (w:World) (h:LM w b0 g rb rc S lv E B ns):Calls Tryz.prog 97 #[ptr g,.int .i64 ((S.length:Int) - 1)] w fun e w'=>e=.returned (.tuple #[])∧Below w.heap.size w w':=by
  obtain ⟨l0,l1,l2,l3,lf⟩:=lrow4 h.hd
  obtain ⟨r0,r1,rf⟩:=h.cells
  obtain ⟨s0,s1⟩:=h.cellS (S.length - 1) (by omega)
  obtain ⟨_,_,_,hs5,hs6⟩:=h.stat S[S.length - 1] (List.getElem_mem _)
  obtain ⟨P,cc,rfl,hcc⟩:=h.last.form
  generalize hQ:S[S.length - 1]=R at *
  clear hQ
  obtain ⟨m,hm1⟩:∃ m,S.length=m + 1:=⟨S.length - 1,by omega⟩
  rw [hm1] at l3 r0 s0 s1
  rw [hm1] at hm
  rw [hm1,show ((m + 1:Nat):Int) - 1=(m:Int) by omega]
  simp only [Nat.add_sub_cancel] at s0 s1
  obtain ⟨RN,hRN⟩:∃ RN,R.ns.length=RN:=⟨_,rfl⟩
  obtain ⟨RO,hRO⟩:∃ RO,R.o * 3=RO:=⟨_,rfl⟩
  rw [hRN] at hs5 hs6
  rw [hRN,hRO] at s0
  obtain ⟨N,hN⟩:∃ N,ns.length=N:=⟨_,rfl⟩
  rw [hN] at r0 hn1 hn2
  obtain ⟨M,hM⟩:∃ M,m + 1=M:=⟨_,rfl⟩
  rw [hM] at r0 hm
  obtain ⟨M2,hM2⟩:∃ M2,m + 1 + 1=M2:=⟨_,rfl⟩
  rw [hM2] at l3
  have hw:IntKind.i64.wrap ((m:Int) + 1)=(M:Int):=by rw [IntKind.wrap_i64] <;> omega
  have hne:((M:Int) == (M2:Int))=false:=by simp; omega
  have hz0:(0:Int) ≤ (m:Int):=by omega
  have hz1:(m:Int) < (M2:Int):=by omega
  have hz2:(0:Int) ≤ (M:Int):=by omega
  have hz3:(M:Int) < (M2:Int):=by omega
  have hy1:((RN:Int) == 0)=false:=by simp; omega
  have hy2:((N:Int) == 0)=false:=by simp; omega
  obtain ⟨T,hT⟩:∃ T,(RN:Int) + (N:Int)=T:=⟨_,rfl⟩
  have hw2:IntKind.i64.wrap ((RN:Int) + (N:Int))=T:=by rw [IntKind.wrap_i64] <;> omega
  have hy3:¬ (T ≤ 512):=by omega
  clear h hm1 hM hM2 hRN hRO hN hT
  go_enter Tryz.func97,Tryz.ntmps97
  go_wp2_with fail
  go_quiet (fail)
  have HB:Hid (Below w.heap.size w (w.drewN nq)):=below_dn (Below.refl _ w) _
  generalize w.drewN nq=w1 at *
  go_wp2
  go_returns
  exact ⟨rfl,HB.out⟩
set_option maxHeartbeats 2000000 in
theorem levelM_stay (hm:S.length ≤ 1073741824) (hn1:1 ≤ ns.length) (hn2:ns.length ≤ 1024) (w:World) (h:LM w b0 g rb rc S lv E B ns):Calls Tryz.prog 57 #[ptr g,.int .i64 (S.length:Int)] w fun e w'=>e=.returned (.tuple #[])∧Below w.heap.size w w':=by
  have HL:Hid (LM w b0 g rb rc S lv E B ns):=h
  have HJ:Hid (∀ W,LM W b0 g rb rc S lv E B ns → Calls Tryz.prog 97 #[ptr g,.int .i64 (S.length:Int)] W fun e w'=>e=.returned (.tuple #[])∧Below W.heap.size W w'):=fun W hW=>joinM_end hm W hW
  have HK:Hid (∀ W,1 ≤ S.length → LM W b0 g rb rc S lv E B ns → Calls Tryz.prog 97 #[ptr g,.int .i64 ((S.length:Int) - 1)] W fun e w'=>e=.returned (.tuple #[])∧Below W.heap.size W w'):=fun W h1 hW=>joinM_mid hm h1 hn1 (by omega) W hW
  obtain ⟨l0,l1,l2,l3,lf⟩:=lrow4 h.hd
  obtain ⟨r0,r1,rf⟩:=h.cells
  obtain ⟨P,cc,hnv,hcc⟩:=h.last.form
  rw [hnv] at r0
  obtain ⟨M,hM⟩:∃ M,S.length + 1=M:=⟨_,rfl⟩
  rw [hM] at l3
  have hz0:(0:Int) ≤ (S.length:Int):=by omega
  have hz1:(S.length:Int) < (M:Int):=by omega
  have hz:¬ ((1024:Int) < (ns.length:Int)):=by omega
  clear h hnv
  go_enter Tryz.func57,Tryz.ntmps57
  go_wp2_with fail
  refine (show Calls _ _ _ _ _ from HJ.out _ HL.out).mono ?_
  rintro e w1 ⟨rfl,hb1⟩
  have HB1:Hid (Below w.heap.size w w1):=hb1
  have HL1:Hid (LM w1 b0 g rb rc S lv E B ns):=HL.out.on hb1
  clear hb1
  by_cases hS:S.length=0
  · have hq:¬ ((0:Int) < (S.length:Int)):=by omega
    go_wp2
    go_returns
    exact ⟨rfl,HB1.out⟩
  · have hq:(0:Int) < (S.length:Int):=by omega
    have hw:IntKind.i64.wrap ((S.length:Int) - 1)=(S.length:Int) - 1:=by rw [IntKind.wrap_i64] <;> omega
    have HK1:Hid _:=HK.out w1 (by omega) HL1.out
    go_wp2_with fail
    refine (show Calls _ _ _ _ _ from HK1.out).mono ?_
    rintro e w2 ⟨rfl,hb2⟩
    have HB2:Hid (Below w.heap.size w w2):=bel_to HB1.out hb2 (Nat.le_refl _)
    clear hb2
    go_wp2
    go_returns
    exact ⟨rfl,HB2.out⟩
end
end Go.Proofs.YtijambehfobopaaGreatDoor
namespace Go.Proofs.YtijambehfobopaaGreatDoor
open Go.RowKit
set_option linter.unusedVariables false
set_option linter.unusedSimpArgs false
theorem infoRw:(Tryz.prog.info? 69).map (fun i=>(i.zero,i.size,i.bytes))=some (some (.agg #[.slice none 0 0,.int .i64 0]),2,32):=by kernel_rfl
theorem row4_at (w:World) (a b c d:Value) (T:Nat):∀ j u,[a,b,c,d][j]?=some u → (w.alloc (.cells #[a,b,c,d] T)).cell? ((⟨w.heap.size,0,none⟩:Addr).add j)=some u:=fun j u hj=>by
  rw [Addr.add_lit,Nat.zero_add,cell_of_row _ _ _ _ _ _ (one_alloc w (.cells #[a,b,c,d] T))]
  rw [← hj,← Array.getElem?_toList]
theorem newRow_seg (Y o c:Nat) (ns:List Nd) (hl:ns.length ≤ 1073741824) (hcnt:cntN ns ≤ 1073741824) (w:World) (hS:Seg w Y o ns) :
    Calls Tryz.prog 28 #[.slice (some ⟨Y,o * 3,none⟩) ns.length c] w fun e w'=>e=.returned (.agg #[.slice (some ⟨Y,o * 3,none⟩) ns.length c,.int .i64 (cntN ns:Int)])∧Below w.heap.size w w':=by
  have hb0:Below w.heap.size w (w.alloc (.cells #[.slice none 0 0,.int .i64 0] 69)):=(Below.refl _ w).alloc (Nat.le_refl _) _
  have hr0:=one_alloc w (.cells #[.slice none 0 0,.int .i64 0] 69)
  generalize w.alloc (.cells #[.slice none 0 0,.int .i64 0] 69)=W0 at hb0 hr0
  have HE:Hid _:=elements_any Y c ns o (some ⟨Y,o * 3,none⟩) (fun _=>rfl) hl hcnt (w.alloc (.cells #[.slice none 0 0,.int .i64 0] 69)) (fun t ht=>by
    have h0:=hS.cells t ht
    have hb:Below w.heap.size w (w.alloc (.cells #[.slice none 0 0,.int .i64 0] 69)):=(Below.refl _ w).alloc (Nat.le_refl _) _
    exact ⟨cell_on h0.1 hb,cell_on h0.2.1 hb,cell_on h0.2.2 hb⟩)
  clear hS hb0 hr0 W0
  go_enter Tryz.func28,Tryz.ntmps28
  go_wp2_with fail
  refine (show Calls _ _ _ _ _ from HE.out).mono ?_
  rintro e w1 ⟨rfl,hb1⟩
  have HB1:Hid (Below w.heap.size w w1):=bel_to ((Below.refl _ w).alloc (Nat.le_refl _) _) hb1 (Nat.le_refl _)
  have hr1:=keep_row (one_alloc w (.cells #[.slice none 0 0,.int .i64 0] 69)) hb1
  obtain ⟨z0,z1,zf⟩:=prow2 hr1
  have HR2:Hid (((w1.setCell ⟨w.heap.size,0,none⟩ (.slice (some ⟨Y,o * 3,none⟩) ns.length c)).setCell ⟨w.heap.size,1,none⟩ (.int .i64 (cntN ns:Int))).heap[w.heap.size]?=some (.cells #[.slice (some ⟨Y,o * 3,none⟩) ns.length c,.int .i64 (cntN ns:Int)] 69)):=by
    show _=_
    rw [heap_setCell_same _ _ _ _ _ _ (heap_setCell_same _ _ _ _ _ _ hr1)]; rfl
  clear hb1 hr1
  go_wp2
  obtain ⟨g0,g1,gf⟩:=prow2 HR2.out
  exact bodyPost_ret (v:=.agg #[.slice (some ⟨Y,o * 3,none⟩) ns.length c,.int .i64 (cntN ns:Int)]) (by simp [results,Tryz.results28,go_sem,g0,g1]) rfl ⟨rfl,(HB1.out.setCell (p:=⟨w.heap.size,0,none⟩) (Nat.le_refl _) _).setCell (p:=⟨w.heap.size,1,none⟩) (Nat.le_refl _) _⟩
set_option maxHeartbeats 4000000 in
set_option maxRecDepth 100000 in
theorem replR (b0 rb rc m X:Nat) (xs:List Value) (x y a b c d:Value) (hxs:xs.length=m * 2) (hm:m ≤ 1073741824) (h1a:∀ u ∈ [a,b,c,d],u.oneCell'=true) (w:World) (hb0:b0 ≤ w.heap.size) (h:w.ownsRow b0 69 2 (.slice (some ⟨rb,0,none⟩) (m + 1) rc) (m + 1) (xs ++ [x,y]))
    (hX:∀ j u,[a,b,c,d][j]?=some u → w.cell? ((⟨X,0,none⟩:Addr).add j)=some u) :
    Calls Tryz.prog 96 #[.slice (some ⟨rb,0,none⟩) (m + 1) rc,.int .i64 (m:Int),.int .i64 ((m + 1:Nat):Int),.slice (some ⟨X,0,none⟩) 2 2] w fun r w'=>∃ rb' rc',r=.returned (.slice (some ⟨rb',0,none⟩) (m + 2) rc')∧w'.ownsRow b0 69 2 (.slice (some ⟨rb',0,none⟩) (m + 2) rc') (m + 2) (xs ++ [a,b,c,d])∧w.grownBy w' (some rb):=by
  obtain ⟨i0,hi0,hz0,hz1,hz2⟩:=info_parts infoRw
  have hown:w.ownsRow b0 69 2 (.slice (some ⟨rb,0,none⟩) m rc) m xs∧m + 1 ≤ rc∧rc ≤ maxLen:=by
    obtain ⟨_,h2⟩:=h
    rcases h2 with ⟨e,_⟩ | ⟨g',cap,cur,e,r1,r2,r3,r4,r5,r6⟩
    · cases e
    · injection e with e1 e2 e3
      injection e1 with e1
      injection e1 with e1
      subst e1; subst e3
      refine ⟨⟨hxs,Or.inr ⟨rb,rc,cur,rfl,r1,r2,by omega,r4,r5,?_⟩⟩,r3,r4⟩
      have:=congrArg (List.take (m * 2)) r6
      rw [List.take_take,Nat.min_eq_left (by omega),List.take_append_of_le_length (by omega)] at this
      rw [this]; exact List.take_of_length_le (by omega)
  have HOW:Hid (w.ownsRow b0 69 2 (.slice (some ⟨rb,0,none⟩) m rc) m xs):=hown.1
  have hrc:=hown.2.1
  have hrm:=hown.2.2
  have HX:Hid _:=hX
  obtain ⟨M,hM⟩:∃ M,m + 1=M:=⟨_,rfl⟩
  have HMM:Hid (m + 1=M):=hM
  obtain ⟨M2,hM2⟩:∃ M2,m + 2=M2:=⟨_,rfl⟩
  rw [hM] at hrc ⊢
  rw [hM2]
  have hne:((m:Int) == (M:Int))=false:=by simp; omega
  have hz1':(m:Int) ≤ (M:Int):=by omega
  have hz2':(M:Int) ≤ (rc:Int):=by omega
  have hz3':(m:Int) ≤ (rc:Int):=by omega
  have hz4:¬ (rc=m):=by omega
  have hz5:¬ ((M2:Int) < (M:Int)):=by omega
  clear h hown hX hM
  go_enter Tryz.func96,Tryz.ntmps96
  go_upto_region 5 with fail
  go_wp2_with (at_builtin; go_must (refine wpList_append_own w rfl _ _ 60 rfl b0 69 i0 (.agg #[.slice none 0 0,.int .i64 0]) 2 32 Tryz.underlying60 hi0 hz0 hz1 hz2 rfl (by decide) (.slice (some ⟨rb,0,none⟩) m rc) m xs rfl HOW.out ⟨X,0,none⟩ 2 2 [a,b,c,d] rfl rfl HX.out h1a (by unfold maxLen; omega) (by omega) hb0 ?_))
  intro v' w1 hown hgr hnn
  obtain ⟨rb',rc',rfl⟩:∃ rb' rc',v'=.slice (some ⟨rb',0,none⟩) M2 rc':=by
    obtain ⟨_,h2⟩:=hown
    rcases h2 with ⟨e,h0⟩ | ⟨g',cap,cur,e,_⟩
    · omega
    · exact ⟨g',cap,by rw [e,← hM2]⟩
  have HR:Hid (w1.ownsRow b0 69 2 (.slice (some ⟨rb',0,none⟩) M2 rc') M2 (xs ++ [a,b,c,d])∧w.grownBy w1 (some rb)):=⟨hM2 ▸ hown,hgr⟩
  clear hown hgr hnn hM2
  go_wp2
  go_returns
  exact ⟨rb',rc',rfl,HR.out.1,HR.out.2⟩
end Go.Proofs.YtijambehfobopaaGreatDoor
