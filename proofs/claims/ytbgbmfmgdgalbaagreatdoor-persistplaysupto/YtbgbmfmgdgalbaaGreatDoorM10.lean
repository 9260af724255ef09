import Derived.Test.YtbgbmfmgdgalbaaGreatDoorM09
namespace Go.Proofs.YtbgbmfmgdgalbaaGreatDoor
open Go.RowKit Go.Maps
set_option linter.unusedVariables false
set_option linter.unusedSimpArgs false
set_option maxHeartbeats 1000000 in
theorem Up_any (g:Nat) (X:Gh) (F:Fs) (w:World) (h:FsP w g X F):Calls Tryz.prog 26 #[ptr (some g)] w fun e w'=>e=.returned (.bool (!F.down))∧w'=w:=by
  obtain ⟨c0,_⟩:=h.cells
  clear h
  unfold ptr
  go_enter Tryz.func26,Tryz.ntmps26
  go_wp2
  go_ret
  exact ⟨rfl,rfl⟩
set_option maxHeartbeats 1000000 in
theorem Steps_any (g:Nat) (X:Gh) (F:Fs) (w:World) (h:FsP w g X F):Calls Tryz.prog 25 #[ptr (some g)] w fun e w'=>e=.returned (.int .i64 (F.steps:Int))∧w'=w:=by
  obtain ⟨c0,c1,_⟩:=h.cells
  clear h
  unfold ptr
  go_enter Tryz.func25,Tryz.ntmps25
  go_wp2
  go_ret
  exact ⟨rfl,rfl⟩
theorem dirF_some {d:List Sl} {n:Nat} (hd:DOk d n) {fb:Nat → Nat} {m:ByteArray} {b:Nat} (h:dirF d fb m=some b):∃ x ∈ d,x.1=m∧∃ i:Nat,x.2=(i:Int)∧i < n∧b=fb i∧findM d m=(i:Int):=by
  unfold dirF at h
  by_cases hf:findM d m < 0
  · rw [if_pos hf] at h; cases h
  · rw [if_neg hf] at h
    cases h
    obtain ⟨x,hx,e1,e2⟩:=findM_mem hf
    have h1:=hd.ge x hx
    have h2:=hd.lt x hx
    exact ⟨x,hx,e1,x.2.toNat,by omega,by omega,by rw [e2],by omega⟩
def valN (F:Fs) (m:ByteArray):ByteArray:=(F.files.getD (findM F.dir m).toNat ⟨⟨#[]⟩,0⟩).d
def valS (F:Fs) (m:ByteArray):ByteArray:=let f:=F.files.getD (findM F.sure m).toNat ⟨⟨#[]⟩,0⟩; f.d.extract 0 f.s
theorem now_list {F:Fs} {n:Nat} (h:DOk F.dir n):(F.dir.map (·.1)).map (fun m=>(m,valN F m))=nowM F:=by
  unfold nowM
  rw [List.map_map]
  refine List.map_congr_left (fun x hx=>?_)
  simp only [Function.comp,valN,findM_in h.rise hx]
theorem safe_list {F:Fs} {n:Nat} (h:DOk F.sure n):(F.sure.map (·.1)).map (fun m=>(m,valS F m))=safeM F:=by
  unfold safeM
  rw [List.map_map]
  refine List.map_congr_left (fun x hx=>?_)
  simp only [Function.comp,valS,findM_in h.rise hx]
set_option maxHeartbeats 1000000 in
theorem Now1_any (b i:Nat) (x:Fi) (pv:Value) (ps:List ByteArray) (w:World) (h:FileAt w b i x pv ps):Calls Tryz.prog 35 #[ptr (some b)] w fun e w'=>e=.returned (.string x.d)∧Below w.heap.size w w':=by
  obtain ⟨d0,d1,d2,d3,df⟩:=file_cells h.blk
  have HF:Hid _:=h.first x.d.size (Nat.le_refl _)
  have HE:Hid (x.d.extract 0 x.d.size=x.d):=ext_all _
  obtain ⟨sz,hsz⟩:∃ sz,x.d.size=sz:=⟨_,rfl⟩
  rw [hsz] at d2 HF HE
  clear h hsz df
  unfold ptr at HF ⊢
  go_enter Tryz.func35,Tryz.ntmps35
  go_wp2_with fail
  refine (show Calls _ _ _ _ _ from HF.out).mono ?_
  rintro e w1 ⟨rfl,hb⟩
  rw [HE.out]
  go_wp2
  go_ret
  exact ⟨rfl,hb⟩
set_option maxHeartbeats 1000000 in
theorem Safe1_any (b i:Nat) (x:Fi) (pv:Value) (ps:List ByteArray) (w:World) (h:FileAt w b i x pv ps):Calls Tryz.prog 50 #[ptr (some b)] w fun e w'=>e=.returned (.string (x.d.extract 0 x.s))∧Below w.heap.size w w':=by
  obtain ⟨d0,d1,d2,d3,df⟩:=file_cells h.blk
  have HF:Hid _:=h.first x.s h.sf
  obtain ⟨sz,hsz⟩:∃ sz,x.s=sz:=⟨_,rfl⟩
  rw [hsz] at d3 HF ⊢
  clear h hsz df
  unfold ptr at HF ⊢
  go_enter Tryz.func50,Tryz.ntmps50
  go_wp2_with fail
  refine (show Calls _ _ _ _ _ from HF.out).mono ?_
  rintro e w1 ⟨rfl,hb⟩
  go_wp2
  go_ret
  exact ⟨rfl,hb⟩
theorem FsC.file {W:World} {g:Nat} {X:Gh} {F:Fs} (h:FsC W g X F) {i:Nat} (hl:Live F X i):FileAt W (X.fb i) i (F.files.getD i ⟨⟨#[]⟩,0⟩) (X.pv i) (X.ps i):=by
  have hlt:=h.live_lt hl
  have e:F.files.getD i ⟨⟨#[]⟩,0⟩=F.files[i]:=by rw [List.getD_eq_getElem?_getD,List.getElem?_eq_getElem hlt]; rfl
  rw [e]
  exact h.fil i _ hl (List.getElem?_eq_getElem hlt)
set_option maxHeartbeats 1000000 in
theorem Now_any (g:Nat) (X:Gh) (F:Fs) (w:World) (h:FsP w g X F):Calls Tryz.prog 14 #[ptr (some g)] w fun e w'=>∃ v,e=.returned v∧w'.ownsRow w.heap.size 41 2 v F.dir.length (pprE.fl (nowM F))∧Below w.heap.size w w':=by
  obtain ⟨c0,c1,c2,c3,_⟩:=h.cells
  have hfew:=h.ok.dir.few
  have HP:Hid _:=pairs_any 35 (fun args w=>by kernel_rfl) (valN F) X.mn F.dir.length (dirF F.dir X.fb) (F.dir.map (·.1)) (names_of h.ok.dir X.fb) (by omega) (by rw [List.length_map]; omega) (fun m hm=>by
      obtain ⟨x,hx,rfl⟩:=List.mem_map.1 hm
      have:=(named_size (h.ok.dir.nam x hx)).2; omega) w h.now_k (fun m b hb W' hW=>by
      obtain ⟨x,hx,e1,i,e2,h2,rfl,h3⟩:=dirF_some h.ok.dir hb
      have hl:Live F X i:=Or.inl ⟨x,hx,e2⟩
      have:=Now1_any _ _ _ _ _ W' ((h.on hW).file hl)
      have ev:valN F m=(F.files.getD i ⟨⟨#[]⟩,0⟩).d:=by unfold valN; rw [h3]; rfl
      rw [ev]; exact this)
  rw [now_list h.ok.dir,List.length_map] at HP
  clear h hfew
  unfold ptr
  go_enter Tryz.func14,Tryz.ntmps14
  go_wp2_with fail
  refine (show Calls _ _ _ _ _ from HP.out).mono ?_
  rintro e w1 ⟨v,rfl,ho,hb⟩
  go_wp2
  go_ret
  exact ⟨v,rfl,ho,hb⟩
set_option maxHeartbeats 1000000 in
theorem Safe_any (g:Nat) (X:Gh) (F:Fs) (w:World) (h:FsP w g X F):Calls Tryz.prog 22 #[ptr (some g)] w fun e w'=>∃ v,e=.returned v∧w'.ownsRow w.heap.size 41 2 v F.sure.length (pprE.fl (safeM F))∧Below w.heap.size w w':=by
  obtain ⟨c0,c1,c2,c3,c4,_⟩:=h.cells
  have hfew:=h.ok.sure.few
  have HP:Hid _:=pairs_any 50 (fun args w=>by kernel_rfl) (valS F) X.ms F.sure.length (dirF F.sure X.fb) (F.sure.map (·.1)) (names_of h.ok.sure X.fb) (by omega) (by rw [List.length_map]; omega) (fun m hm=>by
      obtain ⟨x,hx,rfl⟩:=List.mem_map.1 hm
      have:=(named_size (h.ok.sure.nam x hx)).2; omega) w h.safe_k (fun m b hb W' hW=>by
      obtain ⟨x,hx,e1,i,e2,h2,rfl,h3⟩:=dirF_some h.ok.sure hb
      have hl:Live F X i:=Or.inr (Or.inl ⟨x,hx,e2⟩)
      have:=Safe1_any _ _ _ _ _ W' ((h.on hW).file hl)
      have ev:valS F m=(F.files.getD i ⟨⟨#[]⟩,0⟩).d.extract 0 (F.files.getD i ⟨⟨#[]⟩,0⟩).s:=by unfold valS; rw [h3]; rfl
      rw [ev]; exact this)
  rw [safe_list h.ok.sure,List.length_map] at HP
  clear h hfew
  unfold ptr
  go_enter Tryz.func22,Tryz.ntmps22
  go_wp2_with fail
  refine (show Calls _ _ _ _ _ from HP.out).mono ?_
  rintro e w1 ⟨v,rfl,ho,hb⟩
  go_wp2
  go_ret
  exact ⟨v,rfl,ho,hb⟩
end Go.Proofs.YtbgbmfmgdgalbaaGreatDoor
namespace Go.Proofs.YtbgbmfmgdgalbaaGreatDoor
open Go.RowKit Go.Maps
set_option linter.unusedVariables false
set_option linter.unusedSimpArgs false
theorem Bec.refl {w:World} {g:Nat} {X:Gh} {F:Fs} (h:FsP w g X F):Bec w g X F w X F:=⟨h,ModP.refl _ _,fun k hk=>Or.inl hk,by omega,fun q hq=>Or.inl hq⟩
theorem FsC.ne_g {W:World} {g:Nat} {X:Gh} {F:Fs} (h:FsC W g X F):X.mn ≠ g∧X.ms ≠ g∧(∀ i,Live F X i → X.fb i ≠ g∧∀ k,(X.pv i).ownBlock=some k → k ≠ g)∧(∀ k,X.cv.ownBlock=some k → k ≠ g)∧(∀ k,X.qv.ownBlock=some k → k ≠ g):=by
  have key:∀ {k:Nat} {cs:Array Value} {t:Nat} {fz:Nat × Nat},W.heap[k]?=some (.cells cs t fz) → t ≠ 74 → k ≠ g:=fun hk ht e=>by
    subst e
    have:=hk.symm.trans h.blk
    injection this with this
    injection this with _ h2
    exact ht h2
  refine ⟨h.now_k.ne h.blk,h.safe_k.ne h.blk,fun i hl=>⟨key (h.file hl).blk (by decide),fun k hk=>?_⟩,fun k hk=>?_,fun k hk=>?_⟩
  · obtain ⟨cur,hc⟩:=own_type (h.file hl).own hk; exact key hc (by decide)
  · obtain ⟨cur,hc⟩:=own_type h.chg hk; exact key hc (by decide)
  · obtain ⟨cur,hc⟩:=h.row.type hk; exact key hc (by decide)
theorem FsP.flag {W W':World} {g:Nat} {X:Gh} {F F':Fs} (h:FsP W g X F) (ho:Only W W' g) (hF:F'.files=F.files∧F'.dir=F.dir∧F'.sure=F.sure∧F'.chg=F.chg) (hb:W'.heap[g]?=some (.cells #[.bool F'.down,.int .i64 (F'.steps:Int),.int .i64 (F'.files.length:Int),.map (some X.mn),.map (some X.ms),X.cv,X.qv] 74)) (hp:Plans F' X.qs) (hh:∀ q ∈ X.qs,Holds W F q → Holds W F' q):FsP W' g X F':=by
  obtain ⟨n1,n2,n3,n4,n5⟩:=h.ne_g
  obtain ⟨e1,e2,e3,e4⟩:=hF
  have eL:∀ i,Live F' X i ↔ Live F X i:=fun i=>by unfold Live; rw [e2,e3]
  have eo:∀ k,dirK F' k=dirK F k:=fun k=>by unfold dirK; rw [e3,e4]
  have ec:chgL F' X=chgL F X:=by unfold chgL; rw [e4]
  obtain ⟨k1,hn⟩:=h.now
  obtain ⟨k2,hs⟩:=h.safe
  refine ⟨⟨⟨fun k hk=>?_,?_,?_,?_,?_⟩,hb,⟨k1,?_⟩,⟨k2,?_⟩,h.mne,?_,h.row.to (fun k hk=>ho.other k (n5 k hk)),fun i x hl hx=>?_,fun i j hi hj=>h.inj i j ((eL i).1 hi) ((eL j).1 hj)⟩,hp,fun q hq=>?_⟩
  · rw [eo,e1]; exact h.ok.dirs k (by rw [← e4]; exact hk)
  · rw [eo,e2,e4]; exact h.ok.now
  · rw [e4]; exact h.ok.cl
  · rw [e1]; exact h.ok.cfl
  · rw [e4]; exact h.ok.ch
  · rw [e2]; exact hn.to (ho.other _ n1)
  · rw [e3]; exact hs.to (ho.other _ n2)
  · rw [ec,e4]; exact own_to h.chg (fun k hk=>ho.other k (n4 k hk))
  · rw [e1] at hx
    have hl':=(eL i).1 hl
    exact (h.fil i x hl' hx).to (ho.other _ (n3 i hl').1) (fun k hk=>ho.other k ((n3 i hl').2 k hk))
  · refine (hh q hq (h.hld q hq)).to (fun k cs t fz hk ht=>ho.other k (fun e=>ht ?_))
    subst e
    have:=hk.symm.trans h.blk
    injection this with this
    injection this with _ h2
    rw [h2]; exact Or.inl rfl
theorem fs_set {W:World} {g:Nat} {a0 a1 a2 a3 a4 a5 a6:Value} (h:W.heap[g]?=some (.cells #[a0,a1,a2,a3,a4,a5,a6] 74)) (j:Nat) (v:Value):(W.setCell ⟨g,j,none⟩ v).heap[g]?=some (.cells (#[a0,a1,a2,a3,a4,a5,a6].setIfInBounds j v) 74)∧Only W (W.setCell ⟨g,j,none⟩ v) g:=⟨heap_setCell_same W g j _ _ v h,(Only.refl _ _).set _ _⟩
set_option maxHeartbeats 1000000 in
theorem Start_any (g:Nat) (X:Gh) (F:Fs) (w:World) (h:FsP w g X F):Calls Tryz.prog 19 #[ptr (some g)] w fun e w'=>e=.returned (.int .i64 (startM F).2)∧Bec w g X F w' X (startM F).1:=by
  obtain ⟨c0,_,_,_,_,_,_,cf⟩:=h.cells
  have f0:=cf 0
  obtain ⟨dn,hdn⟩:∃ dn,F.down=dn:=⟨_,rfl⟩
  cases dn with
  | true =>
    rw [hdn] at c0
    have hM:startM F=({ F with down:=false },0):=by unfold startM; rw [if_pos hdn]
    have HB:Hid (Bec w g X F (w.setCell ⟨g,0,none⟩ (.bool false)) X { F with down:=false }):=by
      obtain ⟨h1,h2⟩:=fs_set h.blk 0 (.bool false)
      refine ⟨h.flag h2 ⟨rfl,rfl,rfl,rfl⟩ h1 ⟨h.pln.srt,h.pln.ahead,h.pln.all,h.pln.cr⟩ (fun q hq hh=>⟨hh.cr,hh.fl⟩),ModP.only h2 (Or.inl rfl),fun k hk=>Or.inl hk,by omega,fun q hq=>Or.inl hq⟩
    rw [hM]
    clear h hdn cf hM
    unfold ptr
    go_enter Tryz.func19,Tryz.ntmps19
    go_wp2
    go_returns
    exact ⟨rfl,HB.out⟩
  | false =>
    rw [hdn] at c0
    have hM:startM F=(F,1):=by unfold startM; rw [hdn]; rfl
    have HB:Hid (Bec w g X F w X F):=Bec.refl h
    rw [hM]
    clear h hdn cf hM
    unfold ptr
    go_enter Tryz.func19,Tryz.ntmps19
    go_wp2
    go_returns
    exact ⟨rfl,HB.out⟩
end Go.Proofs.YtbgbmfmgdgalbaaGreatDoor
namespace Go.Proofs.YtbgbmfmgdgalbaaGreatDoor
open Go.RowKit Go.Maps
set_option linter.unusedVariables false
set_option linter.unusedSimpArgs false
def spl (cur:Array Value) (o:Nat) (vs:List Value):Array Value:=(cur.toList.take o ++ (vs ++ cur.toList.drop (o + vs.length))).toArray
theorem spl_size (cur:Array Value) (o:Nat) (vs:List Value) (h:o + vs.length ≤ cur.size):(spl cur o vs).size=cur.size:=by
  unfold spl; simp; omega
theorem spl_nil (cur:Array Value) (o:Nat):spl cur o []=cur:=by unfold spl; simp
theorem take_set_one {l:List Value} {o:Nat} {v:Value} (h:o < l.length):(l.set o v).take (o + 1)=l.take o ++ [v]:=by
  rw [List.take_add_one,List.getElem?_set_self h,List.take_set_of_le (Nat.le_refl o)]; rfl
theorem spl_cons (cur:Array Value) (o:Nat) (v:Value) (vs:List Value) (h:o + (vs.length + 1) ≤ cur.size):spl (cur.setIfInBounds o v) (o + 1) vs=spl cur o (v :: vs):=by
  unfold spl
  congr 1
  have ho:o < cur.toList.length:=by simp; omega
  rw [Array.toList_setIfInBounds,take_set_one ho,List.drop_set_of_lt (by omega)]
  simp [Nat.add_assoc,Nat.add_comm 1]
theorem heap_cells (E T:Nat):∀ (vs:List Value) (o:Nat) (w:World) (cur:Array Value),w.heap[E]?=some (.cells cur T) → o + vs.length ≤ cur.size → (w.setCells E o vs).heap[E]?=some (.cells (spl cur o vs) T)
  | [],o,w,cur,h,_=>by rw [spl_nil]; exact h
  | v :: r,o,w,cur,h,hl=>by
    simp only [List.length_cons] at hl
    rw [World.setCells,heap_cells E T r (o + 1) _ _ (heap_setCell_same _ _ _ _ _ _ h) (by simp; omega),spl_cons cur o v r (by omega)]
theorem grown_cells (E:Nat):∀ (vs:List Value) (o:Nat) (w:World),w.grownBy (w.setCells E o vs) (some E)
  | [],_,w=>World.grownBy.refl w _
  | v :: r,o,w=>by
    have ih:=grown_cells E r (o + 1) (w.setCell ⟨E,o,none⟩ v)
    refine ⟨ih.os,ih.tape,ih.output,by have:=ih.size; rw [World.size_setCell] at this; exact this,fun k hk hne=>?_⟩
    rw [World.setCells]
    rw [ih.block k (by rw [World.size_setCell]; exact hk) hne]
    exact heap_setCell_other _ _ _ _ (fun e=>hne (by rw [e]))
theorem grown_wide {w w':World} {r:Option Nat} (h:w.grownBy w' none):w.grownBy w' r:=⟨h.os,h.tape,h.output,h.size,fun k hk _=>h.block k hk (by simp)⟩
theorem grown_only (E:Nat):∀ (vs:List Value) (o:Nat) (w:World),Only w (w.setCells E o vs) E
  | [],o,w=>Only.refl _ _
  | v :: vs,o,w=>((Only.refl w E).set o v).trans (grown_only E vs (o + 1) _)
theorem szP:(Tryz.prog.info? 91).map (·.size)=some 3:=by kernel_rfl
theorem ldP {ops:Array Oper} {rest:List Oper} {op:Oper} {a:Act} {w:World} {Q:Exit → Act → World → Prop} (r o:Nat) (a0 a1 a2:Value) (x:Operand) (hg:op.guard=none) (ho:op.op=.load 91 x) (hx:a.eval x=.pointer (some ⟨r,o,none⟩)) (h0:w.cell? ⟨r,o,none⟩=some a0) (h1:w.cell? ⟨r,o + 1,none⟩=some a1) (h2:w.cell? ⟨r,o + 2,none⟩=some a2) (h:wpList Tryz.prog ops Q rest (a.put op.dst (.agg #[a0,a1,a2])) w):wpList Tryz.prog ops Q (op :: rest) a w:=by
  refine wpList_load_mid hg _ x ho r o hx [a0,a1,a2] _ (fun j v hv=>?_) Tryz.underlying91 rfl szP h
  rcases j with _ | _ | _ | j
  · simp at hv; subst hv; exact h0
  · simp at hv; subst hv; exact h1
  · simp at hv; subst hv; exact h2
  · simp at hv
theorem stP {ops:Array Oper} {rest:List Oper} {op:Oper} {a:Act} {w:World} {Q:Exit → Act → World → Prop} (hg:op.guard=none) (x y:Operand) (ho:op.op=.store 91 x y) (r o:Nat) (a0 a1 a2:Value) (cur:Array Value) (hx:a.eval x=.pointer (some ⟨r,o,none⟩)) (hy:a.eval y=.agg #[a0,a1,a2]) (h1:a0.oneCell'=true∧a1.oneCell'=true∧a2.oneCell'=true) (hr:w.heap[r]?=some (.cells cur 91)) (hs:o + 3 ≤ cur.size) (h:∀ W,W.heap[r]?=some (.cells (spl cur o [a0,a1,a2]) 91) → Only w W r → wpList Tryz.prog ops Q rest (a.put op.dst undef) W):wpList Tryz.prog ops Q (op :: rest) a w:=by
  refine wpList_store_mid hg 91 x y ho r o #[a0,a1,a2] hx hy ?_ szP (by simp [h1.1,h1.2.1,h1.2.2]) ?_
  · intro j hj
    refine ⟨?_,frozen_of_row _ _ _ _ _ hr⟩
    rw [cell_of_row _ _ _ _ _ _ hr]
    have hj':j < 3:=hj
    simp; omega
  exact h _ (heap_cells r _ [a0,a1,a2] o w cur hr (by simpa using hs)) (grown_only r _ o w)
def DueNo (w:World) (e:Ending) (w':World):Prop:=e=.returned (.tuple #[.agg #[.int .i64 0,.bool false,.nilFunc],.bool false])∧Below w.heap.size w w'
theorem fsC7 {W:World} {g:Nat} {a0 a1 a2 a3 a4 a5 a6:Value} (h:W.heap[g]?=some (.cells #[a0,a1,a2,a3,a4,a5,a6] 74)):W.cell? ⟨g,0,none⟩=some a0∧W.cell? ⟨g,1,none⟩=some a1∧W.cell? ⟨g,2,none⟩=some a2∧W.cell? ⟨g,3,none⟩=some a3∧W.cell? ⟨g,4,none⟩=some a4∧W.cell? ⟨g,5,none⟩=some a5∧W.cell? ⟨g,6,none⟩=some a6∧∀ j,W.frozen? ⟨g,j,none⟩=false:=by
  refine ⟨?_,?_,?_,?_,?_,?_,?_,fun j=>frozen_of_row _ _ _ _ _ h⟩ <;> (rw [cell_of_row _ _ _ _ _ _ h]; rfl)
theorem row3 {W:World} {g T:Nat} {a0 a1 a2:Value} (h:W.heap[g]?=some (.cells #[a0,a1,a2] T)):W.cell? ⟨g,0,none⟩=some a0∧W.cell? ⟨g,1,none⟩=some a1∧W.cell? ⟨g,2,none⟩=some a2∧∀ j,W.frozen? ⟨g,j,none⟩=false:=by
  refine ⟨?_,?_,?_,fun j=>frozen_of_row _ _ _ _ _ h⟩ <;> (rw [cell_of_row _ _ _ _ _ _ h]; rfl)
set_option maxHeartbeats 4000000 in
set_option maxRecDepth 100000 in
theorem due_none (g:Nat) (a0 a2 a3 a4 a5:Value) (s:Nat) (P:Option Addr) (c:Nat) (w:World) (h:w.heap[g]?=some (.cells #[a0,.int .i64 (s:Int),a2,a3,a4,a5,.slice P 0 c] 74)) :
    Calls Tryz.prog 159 #[ptr (some g)] w fun e w'=>DueNo w e w':=by
  obtain ⟨R,hR⟩:∃ R,w.heap.size=R:=⟨_,rfl⟩
  obtain ⟨W0,hW0⟩:∃ W0,w.alloc (.cells #[.int .i64 0,.bool false,.nilFunc] 91)=W0:=⟨_,rfl⟩
  have hb0:Below R w W0:=by rw [← hW0]; exact (Below.refl _ _).alloc (by omega) _
  have hr0:W0.heap[R]?=some (.cells #[.int .i64 0,.bool false,.nilFunc] 91):=by rw [← hW0,← hR]; exact one_alloc _ _
  have hg0:=(hb0.block g (by rw [← hR]; exact row_lt h)).trans h
  obtain ⟨_,c1,_,_,_,_,c6,_⟩:=fsC7 hg0
  obtain ⟨r0,r1,r2,rf⟩:=row3 hr0
  have HB:Hid (Below R w W0):=hb0
  have HR:Hid (w.heap.size=R):=hR
  have HR0:Hid (W0.heap[R]?=some (.cells #[.int .i64 0,.bool false,.nilFunc] 91)):=hr0
  clear h hg0 hb0 hr0 r0 r1 r2 rf
  unfold ptr
  go_enter Tryz.func159,Tryz.ntmps159
  go_upto_region 1 with fail
  go_quiet (fail)
  obtain ⟨W1,hW1⟩:∃ W1,W0.drewN nq=W1:=⟨_,rfl⟩
  have hr1:W1.heap[R]?=some (.cells #[.int .i64 0,.bool false,.nilFunc] 91):=by rw [← hW1]; exact HR0.out
  have hb1:Below R w W1:=by rw [← hW1]; exact below_dn HB.out _
  rw [hW1]
  obtain ⟨r0,r1,r2,rf⟩:=row3 hr1
  have f0:=rf 0
  have f1:=rf 1
  have f2:=rf 2
  have HB1:Hid (Below R w W1):=hb1
  have HR1:Hid (W1.heap[R]?=some (.cells #[.int .i64 0,.bool false,.nilFunc] 91)):=hr1
  clear hW1 hr1 hb1 hR rf c1 c6 hW0
  go_wp2_with (refine stP rfl _ _ rfl R 0 (.int .i64 0) (.bool false) .nilFunc #[.int .i64 0,.bool false,.nilFunc] rfl rfl ⟨rfl,rfl,rfl⟩ HR1.out (by simp) ?_; intro W2 hr2 ho2; clear r0 r1 r2 f0 f1 f2)
  have hr3:W2.heap[R]?=some (.cells #[.int .i64 0,.bool false,.nilFunc] 91):=hr2
  obtain ⟨r0,r1,r2,rf⟩:=row3 hr3
  refine bodyPost_ret (v:=.tuple #[.agg #[.int .i64 0,.bool false,.nilFunc],.bool false]) (by simp [results,Tryz.results159,go_sem,r0,r1,r2]) rfl ⟨rfl,?_⟩
  rw [HR.out]
  exact HB1.out.trans (ho2.below (Nat.le_refl _))
theorem fl_cons (q:Pq) (l:List Pq):plnE.fl (q :: l)=[.int .i64 (q.s:Int),.bool q.c,meetV q] ++ plnE.fl l:=by
  unfold ET.fl; rw [List.flatMap_cons]; rfl
def DueYes (w:World) (g:Nat) (a0 a2 a3 a4 a5:Value) (s:Nat) (qv:Value) (q:Pq) (l:List Pq) (e:Ending) (w':World):Prop:=e=.returned (.tuple #[.agg #[.int .i64 (q.s:Int),.bool q.c,meetV q],.bool true])∧∃ qv',w'.heap[g]?=some (.cells #[a0,.int .i64 (s:Int),a2,a3,a4,a5,qv'] 74)∧PRow w' qv' l∧(∀ k,qv'.ownBlock=some k → qv.ownBlock=some k)∧ModP (fun k=>k=g ∨ qv.ownBlock=some k) w w'
set_option maxHeartbeats 4000000 in
set_option maxRecDepth 100000 in
theorem due_other (g:Nat) (a0 a2 a3 a4 a5:Value) (s:Nat) (hs:s ≤ 4611686018427387904) (qv:Value) (q:Pq) (l:List Pq) (hq:q.s ≠ s) (hl:l.length ≤ 3298534883328) (w:World) (hp:PRow w qv (q :: l)) (h:w.heap[g]?=some (.cells #[a0,.int .i64 (s:Int),a2,a3,a4,a5,qv] 74)) :
    Calls Tryz.prog 159 #[ptr (some g)] w fun e w'=>DueNo w e w':=by
  rcases hp with ⟨_,hp⟩ | ⟨E,o,c,cur,rfl,hE,hcs,hlc,hoc,hcell⟩
  · cases hp
  obtain ⟨R,hR⟩:∃ R,w.heap.size=R:=⟨_,rfl⟩
  obtain ⟨W0,hW0⟩:∃ W0,w.alloc (.cells #[.int .i64 0,.bool false,.nilFunc] 91)=W0:=⟨_,rfl⟩
  have hb0:Below R w W0:=by rw [← hW0]; exact (Below.refl _ _).alloc (by omega) _
  have hr0:W0.heap[R]?=some (.cells #[.int .i64 0,.bool false,.nilFunc] 91):=by rw [← hW0,← hR]; exact one_alloc _ _
  have hg0:=(hb0.block g (by rw [← hR]; exact row_lt h)).trans h
  have hE0:=(hb0.block E (by rw [← hR]; exact row_lt hE)).trans hE
  obtain ⟨_,c1,_,_,_,_,c6,_⟩:=fsC7 hg0
  have e0:W0.cell? ⟨E,o * 3,none⟩=some (.int .i64 (q.s:Int)):=by
    rw [cell_of_row _ _ _ _ _ _ hE0]
    exact hcell 0 _ (by rw [fl_cons]; rfl)
  have hln:(q :: l).length=l.length + 1:=rfl
  obtain ⟨n,hn⟩:∃ n,(q :: l).length=n:=⟨_,rfl⟩
  rw [hn] at c6
  have hn0:¬ (n:Int)=0:=by omega
  have hn1:(0:Int) < (n:Int):=by omega
  have hn2:((n:Int) == 0)=false:=by simp; omega
  have hne:((q.s:Int) == (s:Int))=false:=by simp; omega
  have hne':¬ (q.s:Int)=(s:Int):=by omega
  have HB:Hid (Below R w W0):=hb0
  have HR:Hid (w.heap.size=R):=hR
  have HR0:Hid (W0.heap[R]?=some (.cells #[.int .i64 0,.bool false,.nilFunc] 91)):=hr0
  clear h hg0 hb0 hr0 hE hE0 hcell hcs hlc hn hln hq
  unfold ptr
  go_enter Tryz.func159,Tryz.ntmps159
  go_upto_region 1 with fail
  go_quiet (fail)
  obtain ⟨W1,hW1⟩:∃ W1,W0.drewN nq=W1:=⟨_,rfl⟩
  have hr1:W1.heap[R]?=some (.cells #[.int .i64 0,.bool false,.nilFunc] 91):=by rw [← hW1]; exact HR0.out
  have hb1:Below R w W1:=by rw [← hW1]; exact below_dn HB.out _
  rw [hW1]
  have HB1:Hid (Below R w W1):=hb1
  have HR1:Hid (W1.heap[R]?=some (.cells #[.int .i64 0,.bool false,.nilFunc] 91)):=hr1
  clear hW1 hr1 hb1 hR c1 c6 hW0
  go_wp2_with (refine stP rfl _ _ rfl R 0 (.int .i64 0) (.bool false) .nilFunc #[.int .i64 0,.bool false,.nilFunc] rfl rfl ⟨rfl,rfl,rfl⟩ HR1.out (by simp) ?_; intro W2 hr2 ho2)
  have hr3:W2.heap[R]?=some (.cells #[.int .i64 0,.bool false,.nilFunc] 91):=hr2
  obtain ⟨r0,r1,r2,rf⟩:=row3 hr3
  refine bodyPost_ret (v:=.tuple #[.agg #[.int .i64 0,.bool false,.nilFunc],.bool false]) (by simp [results,Tryz.results159,go_sem,r0,r1,r2]) rfl ⟨rfl,?_⟩
  rw [HR.out]
  exact HB1.out.trans (ho2.below (Nat.le_refl _))
end Go.Proofs.YtbgbmfmgdgalbaaGreatDoor
namespace Go.Proofs.YtbgbmfmgdgalbaaGreatDoor
open Go.RowKit Go.Maps
set_option linter.unusedVariables false
set_option linter.unusedSimpArgs false
set_option maxHeartbeats 4000000 in
set_option maxRecDepth 100000 in
theorem due_yes (g:Nat) (a0 a2 a3 a4 a5:Value) (s:Nat) (hs:s ≤ 4611686018427387904) (qv:Value) (q:Pq) (l:List Pq) (hq:q.s=s) (hl:l.length ≤ 3298534883328) (w:World) (hp:PRow w qv (q :: l)) (h:w.heap[g]?=some (.cells #[a0,.int .i64 (s:Int),a2,a3,a4,a5,qv] 74)) :
    Calls Tryz.prog 159 #[ptr (some g)] w fun e w'=>DueYes w g a0 a2 a3 a4 a5 s qv q l e w':=by
  rcases hp with ⟨_,hp⟩ | ⟨E,o,c,cur,rfl,hE,hcs,hlc,hoc,hcell⟩
  · cases hp
  have hlc':l.length + 1 ≤ c:=hlc
  have hEg:E ≠ g:=fun e=>by
    subst e
    have:=hE.symm.trans h
    injection this with this
    injection this with _ h2
    exact absurd h2 (by decide)
  obtain ⟨R,hR⟩:∃ R,w.heap.size=R:=⟨_,rfl⟩
  obtain ⟨W0,hW0⟩:∃ W0,w.alloc (.cells #[.int .i64 0,.bool false,.nilFunc] 91)=W0:=⟨_,rfl⟩
  have hb0:Below R w W0:=by rw [← hW0]; exact (Below.refl _ _).alloc (by omega) _
  have hr0:W0.heap[R]?=some (.cells #[.int .i64 0,.bool false,.nilFunc] 91):=by rw [← hW0,← hR]; exact one_alloc _ _
  have hsz0:W0.heap.size=R + 1:=by rw [← hW0,← hR]; simp
  have hgR:g < R:=by rw [← hR]; exact row_lt h
  have hER:E < R:=by rw [← hR]; exact row_lt hE
  have hg0:=(hb0.block g hgR).trans h
  have hE0:=(hb0.block E hER).trans hE
  obtain ⟨_,c1,_,_,_,_,c6,_⟩:=fsC7 hg0
  have e0:W0.cell? ⟨E,o * 3,none⟩=some (.int .i64 (q.s:Int)):=by
    rw [cell_of_row _ _ _ _ _ _ hE0]
    exact hcell 0 _ (by rw [fl_cons]; rfl)
  obtain ⟨n,hn⟩:∃ n,(q :: l).length=n:=⟨_,rfl⟩
  have hnl:n=l.length + 1:=by rw [← hn]; rfl
  rw [hn] at c6
  have hn1:(0:Int) < (n:Int):=by omega
  have hn2:((n:Int) == 0)=false:=by simp; omega
  have hn0:¬ (n:Int)=0:=by omega
  have hqs:((q.s:Int) == (s:Int))=true:=by simp; omega
  have hqs':(q.s:Int)=(s:Int):=by omega
  have HB:Hid (Below R w W0):=hb0
  have HR:Hid (w.heap.size=R):=hR
  have HSZ:Hid (W0.heap.size=R + 1):=hsz0
  have HR0:Hid (W0.heap[R]?=some (.cells #[.int .i64 0,.bool false,.nilFunc] 91)):=hr0
  have HG0:Hid _:=hg0
  have HE0:Hid (W0.heap[E]?=some (.cells cur 91)):=hE0
  have HCELL:Hid (∀ j u,(plnE.fl (q :: l))[j]?=some u → cur[o * 3 + j]?=some u):=hcell
  have HNE:Hid (E ≠ g∧g < R∧E < R):=⟨hEg,hgR,hER⟩
  have HCS:Hid ((o + c) * 3 ≤ cur.size∧l.length + 1 ≤ c∧o + c ≤ 9223372036854775807):=⟨hcs,hlc',hoc⟩
  have HNL:Hid (n=l.length + 1):=hnl
  have HQV:Hid ((Value.slice (some ⟨E,o * 3,none⟩) (q :: l).length c).ownBlock=some E):=rfl
  clear h hg0 hb0 hr0 hE hE0 hcell hcs hlc hn hq hlc' hsz0 hEg hgR hER hnl
  unfold ptr
  go_enter Tryz.func159,Tryz.ntmps159
  go_upto_region 1 with fail
  go_quiet (fail)
  obtain ⟨W1,hW1⟩:∃ W1,W0.drewN nq=W1:=⟨_,rfl⟩
  have hr1:W1.heap[R]?=some (.cells #[.int .i64 0,.bool false,.nilFunc] 91):=by rw [← hW1]; exact HR0.out
  have hb1:Below R w W1:=by rw [← hW1]; exact below_dn HB.out _
  have hg1:W1.heap[g]?=some (.cells #[a0,.int .i64 (s:Int),a2,a3,a4,a5,.slice (some ⟨E,o * 3,none⟩) n c] 74):=by
    have:=HG0.out
    rw [← hW1]
    have e9:(q :: l).length=n:=by rw [HNL.out]; rfl
    rw [e9] at this
    exact this
  have hE1:W1.heap[E]?=some (.cells cur 91):=by rw [← hW1]; exact HE0.out
  have hs1:W1.heap.size=R + 1:=by rw [← hW1]; exact HSZ.out
  rw [hW1]
  clear hW1 c1 c6 hW0 e0 HG0 HE0 HR0 HSZ HB hR
  obtain ⟨_,c1,_,_,_,_,c6,_⟩:=fsC7 hg1
  have e0:W1.cell? ⟨E,o * 3,none⟩=some (.int .i64 (q.s:Int)):=by
    rw [cell_of_row _ _ _ _ _ _ hE1]; exact HCELL.out 0 _ (by rw [fl_cons]; rfl)
  have e1:W1.cell? ⟨E,o * 3 + 1,none⟩=some (.bool q.c):=by
    rw [cell_of_row _ _ _ _ _ _ hE1]; exact HCELL.out 1 _ (by rw [fl_cons]; rfl)
  have e2:W1.cell? ⟨E,o * 3 + 2,none⟩=some (meetV q):=by
    rw [cell_of_row _ _ _ _ _ _ hE1]; exact HCELL.out 2 _ (by rw [fl_cons]; rfl)
  obtain ⟨mv,hmv⟩:∃ mv,meetV q=mv:=⟨_,rfl⟩
  have HMV:Hid (meetV q=mv∧mv.oneCell'=true):=⟨hmv,by rw [← hmv]; rfl⟩
  rw [hmv] at e2
  clear hmv
  have HG1:Hid (W1.heap[g]?=some (.cells #[a0,.int .i64 (s:Int),a2,a3,a4,a5,.slice (some ⟨E,o * 3,none⟩) n c] 74)):=hg1
  have HE1:Hid (W1.heap[E]?=some (.cells cur 91)):=hE1
  have HR1:Hid (W1.heap[R]?=some (.cells #[.int .i64 0,.bool false,.nilFunc] 91)):=hr1
  have HB1:Hid (Below R w W1):=hb1
  have HS1:Hid (W1.heap.size=R + 1):=hs1
  clear hg1 hE1 hr1 hb1 hqs hqs'
  go_upto_region 4 with (first
    | (refine ldP E (o * 3) (.int .i64 (q.s:Int)) (.bool q.c) mv _ rfl rfl rfl e0 e1 e2 ?_)
    | (refine stP rfl _ _ rfl (R + 1) 0 (.int .i64 (q.s:Int)) (.bool q.c) mv #[.int .i64 0,.bool false,.nilFunc] rfl rfl ⟨rfl,rfl,HMV.out.2⟩ (by rw [← HS1.out]; exact one_alloc _ _) (by simp) ?_; intro W2 hr2 ho2))
  have hr2':W2.heap[R + 1]?=some (.cells #[.int .i64 (q.s:Int),.bool q.c,mv] 91):=hr2
  have hold:∀ k,k < R + 1 → W2.heap[k]?=W1.heap[k]?:=fun k hk=>(ho2.other k (by omega)).trans (heap_alloc_old _ _ (by rw [HS1.out]; exact hk))
  have hR2:=(hold R (by omega)).trans HR1.out
  have hE2:=(hold E (by have:=HNE.out; omega)).trans HE1.out
  have hg2:=(hold g (by have:=HNE.out; omega)).trans HG1.out
  have hb2:Below R w W2:=(HB1.out.alloc (by rw [HS1.out]; omega) _).trans (ho2.below (by omega))
  have HB2:Hid (Below R w W2):=hb2
  have HV2:Hid (W2.heap[R + 1]?=some (.cells #[.int .i64 (q.s:Int),.bool q.c,mv] 91)):=hr2'
  have HR2:Hid (W2.heap[R]?=some (.cells #[.int .i64 0,.bool false,.nilFunc] 91)):=hR2
  have HE2:Hid (W2.heap[E]?=some (.cells cur 91)):=hE2
  have HG2:Hid (W2.heap[g]?=some (.cells #[a0,.int .i64 (s:Int),a2,a3,a4,a5,.slice (some ⟨E,o * 3,none⟩) n c] 74)):=hg2
  obtain ⟨_,_,_,_,_,_,d6,_⟩:=fsC7 hg2
  clear hold hr2 hr2' ho2 hR2 hE2 hg2 hb2 c1 c6 e0 e1 e2 hs1
  go_upto_region 5 with (refine stP rfl _ _ rfl E (o * 3) (.int .i64 0) (.bool false) .nilFunc cur rfl rfl ⟨rfl,rfl,rfl⟩ HE2.out (by have:=HCS.out; omega) ?_; intro W3 hr3 ho3)
  have hne:=HNE.out
  have hg3:=(ho3.other g (by omega)).trans HG2.out
  have HV3:Hid (W3.heap[R + 1]?=some (.cells #[.int .i64 (q.s:Int),.bool q.c,mv] 91)):=(ho3.other _ (by omega)).trans HV2.out
  have HR3:Hid (W3.heap[R]?=some (.cells #[.int .i64 0,.bool false,.nilFunc] 91)):=(ho3.other _ (by omega)).trans HR2.out
  have HG3:Hid (W3.heap[g]?=some (.cells #[a0,.int .i64 (s:Int),a2,a3,a4,a5,.slice (some ⟨E,o * 3,none⟩) n c] 74)):=hg3
  have HE3:Hid (W3.heap[E]?=some (.cells (spl cur (o * 3) [.int .i64 0,.bool false,.nilFunc]) 91)):=hr3
  have HO3:Hid (Only W2 W3 E):=ho3
  obtain ⟨_,_,_,_,_,_,g6,gf⟩:=fsC7 hg3
  have gf6:=gf 6
  clear hg3 hr3 ho3 d6 gf hne
  obtain ⟨Pn,hPn⟩:∃ Pn:Option Addr,(if c=1 then (some { block:=E,off:=o * 3 }:Option Addr) else some { block:=E,off:=o * 3 + 3 })=Pn:=⟨_,rfl⟩
  go_upto_region 6 with fail
  obtain ⟨W4,hW4⟩:∃ W4,W3.setCell ⟨g,6,none⟩ (.slice Pn (n - 1) (c - 1))=W4:=⟨_,rfl⟩
  have ho4:Only W3 W4 g:=by rw [← hW4]; exact (Only.refl _ _).set _ _
  have hg4:W4.heap[g]?=some (.cells #[a0,.int .i64 (s:Int),a2,a3,a4,a5,.slice Pn (n - 1) (c - 1)] 74):=by rw [← hW4]; exact heap_setCell_same W3 g 6 _ _ _ HG3.out
  rw [hW4]
  have hne:=HNE.out
  have hv4:=(ho4.other (R + 1) (by omega)).trans HV3.out
  have hr4:=(ho4.other R (by omega)).trans HR3.out
  obtain ⟨v0,v1,v2,_⟩:=row3 hv4
  have HG4:Hid _:=hg4
  have HO4:Hid (Only W3 W4 g):=ho4
  have HPN:Hid ((if c=1 then (some { block:=E,off:=o * 3 }:Option Addr) else some { block:=E,off:=o * 3 + 3 })=Pn):=hPn
  have HR4:Hid (W4.heap[R]?=some (.cells #[.int .i64 0,.bool false,.nilFunc] 91)):=hr4
  clear hW4 ho4 hg4 hPn hr4 hv4 g6 gf6 hne
  go_wp2_with (first
    | (refine ldP (R + 1) 0 (.int .i64 (q.s:Int)) (.bool q.c) mv _ rfl rfl rfl v0 v1 v2 ?_)
    | (refine stP rfl _ _ rfl R 0 (.int .i64 (q.s:Int)) (.bool q.c) mv #[.int .i64 0,.bool false,.nilFunc] rfl rfl ⟨rfl,rfl,HMV.out.2⟩ HR4.out (by simp) ?_; intro W5 hr5 ho5))
  have hr5':W5.heap[R]?=some (.cells #[.int .i64 (q.s:Int),.bool q.c,mv] 91):=hr5
  obtain ⟨u0,u1,u2,_⟩:=row3 hr5'
  refine bodyPost_ret (v:=.tuple #[.agg #[.int .i64 (q.s:Int),.bool q.c,mv],.bool true]) (by simp [results,Tryz.results159,go_sem,u0,u1,u2]) rfl ⟨by rw [HMV.out.1],.slice Pn (n - 1) (c - 1),?_,?_,?_,?_⟩
  · have:=HNE.out
    exact (ho5.other g (by omega)).trans HG4.out
  · have hne:=HNE.out
    have hcs:=HCS.out
    have hnl:=HNL.out
    have hE5:W5.heap[E]?=some (.cells (spl cur (o * 3) [.int .i64 0,.bool false,.nilFunc]) 91):=((ho5.other E (by omega)).trans (HO4.out.other E hne.1)).trans HE3.out
    have hsz:(spl cur (o * 3) [.int .i64 0,.bool false,.nilFunc]).size=cur.size:=spl_size _ _ _ (by simp; omega)
    by_cases h1:c=1
    · have e:=HPN.out
      rw [if_pos h1] at e
      have hl0:l=[]:=List.eq_nil_of_length_eq_zero (by omega)
      subst hl0
      refine Or.inr ⟨E,o,0,_,?_,hE5,by rw [hsz]; omega,Nat.le_refl _,by omega,fun j u hu=>by simp [ET.fl] at hu⟩
      rw [← e,h1]
      have:n - 1=0:=by rw [hnl]; rfl
      rw [this]; rfl
    · have e:=HPN.out
      rw [if_neg h1] at e
      refine Or.inr ⟨E,o + 1,c - 1,_,?_,hE5,by rw [hsz]; omega,by omega,by omega,fun j u hu=>?_⟩
      · rw [← e,show (o + 1) * 3=o * 3 + 3 by omega,show n - 1=l.length by omega]
      · have h7:=HCELL.out (3 + j) u (by rw [fl_cons,List.getElem?_append_right (by simp)]; simpa using hu)
        unfold spl
        rw [List.getElem?_toArray,List.getElem?_append_right (by simp; omega)]
        rw [List.getElem?_append_right (by simp; omega),List.getElem?_drop]
        rw [Array.getElem?_toList]
        rw [← h7]
        congr 1
        simp
        omega
  · intro k hk
    have e:=HPN.out
    split at e <;> (rw [← e] at hk; cases hk; rfl)
  · have hne:=HNE.out
    have hb:ModP (fun k=>k=g ∨ k=E) w W2:=ModP.below (by rw [HR.out]; exact HB2.out)
    refine ((hb.trans (ModP.only HO3.out (Or.inr rfl))).trans (ModP.only HO4.out (Or.inl rfl))).andThen (ModP.only (S:=fun k=>k=R) ho5 rfl) (fun j hj e=>by have:=HR.out; omega) |>.weak (fun k _ hk=>?_)
    rcases hk with rfl | rfl
    · exact Or.inl rfl
    · exact Or.inr rfl
end Go.Proofs.YtbgbmfmgdgalbaaGreatDoor
namespace Go.Proofs.YtbgbmfmgdgalbaaGreatDoor
open Go.RowKit Go.Maps
set_option linter.unusedVariables false
set_option linter.unusedSimpArgs false
def up1 (F:Fs):Fs:={ F with steps:=F.steps + 1 }
theorem Plans.none_due {F:Fs} {qs:List Pq} (h:Plans F qs) (hn:∀ q l,qs=q :: l → q.s ≠ F.steps + 1):Plans (up1 F) qs∧stepM F=(up1 F,0,0):=by
  have hall:∀ q ∈ qs,F.steps + 1 < q.s:=fun q hq=>by
    cases qs with
    | nil=>cases hq
    | cons q0 l =>
      have h0:=hn q0 l rfl
      have h1:=h.ahead q0 (by simp)
      rcases List.mem_cons.1 hq with rfl | hq
      · omega
      · have:=(List.pairwise_cons.1 h.srt).1 q hq
        unfold ltQ at this
        omega
  refine ⟨⟨h.srt,hall,fun n p hn'=>h.all n p (by have:F.steps + 1 < n:=hn'; omega),fun n hn'=>h.cr n (by have:F.steps + 1 < n:=hn'; omega)⟩,?_⟩
  have hc:¬ F.crash=((F.steps + 1:Nat):Int):=fun e=>by
    obtain ⟨q,hq,_,hs⟩:=h.cr (F.steps + 1) (by omega) e
    have:=hall q hq; omega
  have hf:failM F.fails (F.steps + 1)=none:=by
    rcases hf:failM F.fails (F.steps + 1) with _ | p
    · rfl
    · obtain ⟨q,hq,_,hs⟩:=h.all (F.steps + 1) p (by omega) hf
      have:=hall q hq; omega
  unfold stepM
  simp only []
  rw [if_neg hc,hf]
  rfl
theorem Plans.fail_due {F:Fs} {q:Pq} {l:List Pq} {p:Int} (h:Plans F (q :: l)) (hs:q.s=F.steps + 1) (hc:q.c=false) (hp:failM F.fails q.s=some p):Plans (up1 F) l∧stepM F=(up1 F,200,p):=by
  have hl:∀ x ∈ l,F.steps + 1 < x.s:=fun x hx=>by
    have:=(List.pairwise_cons.1 h.srt).1 x hx
    unfold ltQ at this
    rcases this with h1 | ⟨_,h1,_⟩
    · omega
    · rw [hc] at h1; cases h1
  refine ⟨⟨(List.pairwise_cons.1 h.srt).2,hl,fun n r hn' hf=>?_,fun n hn' hf=>?_⟩,?_⟩
  · have hn2:F.steps + 1 < n:=hn'
    obtain ⟨x,hx,h1,h2⟩:=h.all n r (by omega) hf
    rcases List.mem_cons.1 hx with rfl | hx
    · omega
    · exact ⟨x,hx,h1,h2⟩
  · have hn2:F.steps + 1 < n:=hn'
    obtain ⟨x,hx,h1,h2⟩:=h.cr n (by omega) hf
    rcases List.mem_cons.1 hx with rfl | hx
    · omega
    · exact ⟨x,hx,h1,h2⟩
  · have hcr:¬ F.crash=((F.steps + 1:Nat):Int):=fun e=>by
      obtain ⟨x,hx,h1,h2⟩:=h.cr (F.steps + 1) (by omega) e
      rcases List.mem_cons.1 hx with rfl | hx
      · rw [hc] at h1; cases h1
      · have:=hl x hx; omega
    rw [hs] at hp
    unfold stepM
    simp only []
    rw [if_neg hcr,hp]
    rfl
theorem crash_due {F:Fs} {q:Pq} (hs:q.s=F.steps + 1) (hc:F.crash=(q.s:Int)):stepM F=(downM (up1 F) F.picks,203,0):=by
  unfold stepM
  simp only []
  rw [if_pos (by rw [hc,hs])]
  rfl
theorem pcell_same {w w':World} {g j:Nat} (h:w'.heap[g]?=w.heap[g]?):w'.cell? ⟨g,j,none⟩=w.cell? ⟨g,j,none⟩:=by
  unfold World.cell?
  rw [h]
structure Pks (W:World) (S:Nat → Prop) (v:Value) (p:List Int):Prop where
  kr:KR pinE W v p
  ap:p ≠ [] → ∀ b o n c,v=.slice (some ⟨b,o,none⟩) n c → ¬ S b
theorem Pks.own {W:World} {g:Nat} {X:Gh} {F:Fs} {v:Value} {p:List Int} (h:FsC W g X F) (hv:W.ownsRow 0 3 1 v p.length (pinE.fl p)):Pks W (Own g F X) v p:=⟨KR.own (E:=pinE) hv rfl,fun _ b o n c e hs=>by
  obtain ⟨cur,hc⟩:=own_type hv (k:=b) (by rw [e]; rfl)
  have:=h.own_ty hs hc
  exact absurd this (by unfold tyOwn; decide)⟩
theorem Pks.keep {W W':World} {S:Nat → Prop} {v:Value} {p:List Int} (h:Pks W S v p) (hk:∀ b,b < W.heap.size → ¬ S b → W'.heap[b]?=W.heap[b]?):Pks W' S v p:=by
  refine ⟨?_,h.ap⟩
  by_cases hp:p=[]
  · subst hp
    rcases h.kr with q | ⟨g,o,c,e,_⟩
    · exact Or.inl q
    · exact Or.inr ⟨g,o,c,e,fun j u hu=>by simp [ET.fl] at hu⟩
  · rcases h.kr with q | ⟨g,o,c,e,hc⟩
    · exact Or.inl q
    · refine Or.inr ⟨g,o,c,e,fun j u hu=>?_⟩
      have h1:=hc j u hu
      rw [pcell_same (hk g (lt_of_cell h1) (h.ap hp g o _ _ e))]
      exact h1
theorem Pks.on {W W':World} {S:Nat → Prop} {v:Value} {p:List Int} (h:Pks W S v p) (hb:Below W.heap.size W W'):Pks W' S v p:=h.keep (fun b hb' _=>hb.block b hb')
theorem Pks.form {W:World} {S:Nat → Prop} {v:Value} {p:List Int} (h:Pks W S v p):∃ P c,v=.slice P p.length c:=h.kr.form
def GoDownC:Prop:=∀ (g:Nat) (X:Gh) (F:Fs) (v:Value) (p:List Int) (w:World),FsC w g X F → Sm F X → p.length ≤ 17592186044416 → Pks w (Own g F X) v p → Calls Tryz.prog 41 #[ptr (some g),v] w fun e w'=>e=.returned (.tuple #[])∧∃ X',Bec w g X F w' X' (downM F p)
def StepP (g:Nat) (X:Gh) (F:Fs) (w:World) (PD:World → World → Prop) (PF:Gh → World → Int → World → Prop) (e:Ending) (w':World):Prop:=
  e=.returned (.int .i64 (stepM F).2.1) ∧
  (((stepM F).2.1=0∧(stepM F).1=up1 F∧∃ w1,ModP (Own g F X) w w1∧FsP w1 g X (up1 F)∧PD w1 w') ∨
   ((stepM F).2.1=200∧(stepM F).1=up1 F∧∃ w1 qv qs,Bec w g X F w1 { X with qv:=qv,qs:=qs } (up1 F)∧PF { X with qv:=qv,qs:=qs } w1 (stepM F).2.2 w') ∨
   ((stepM F).2.1=203∧∃ X',Bec w g X F w' X' (stepM F).1))
end Go.Proofs.YtbgbmfmgdgalbaaGreatDoor
