import Derived.Test.YtbgbmfmgdgalbaaGreatDoorM16
import Derived.Test.YtbgbmfmgdgalbaaGreatDoorM01
import Derived.LaidEqlPtr
import Derived.Deep.MidRow
import Derived.Test.YtbgbmfmgdgalbaaGreatDoorM02
import Derived.Test.YtbgbmfmgdgalbaaGreatDoorShE
namespace Go.Proofs.YtbgbmfmgdgalbaaGreatDoor
open Go.RowKit Go.Maps
set_option linter.unusedVariables false
set_option linter.unusedSimpArgs false
set_option maxHeartbeats 400000 in
set_option maxRecDepth 100000 in
theorem cloneC_any (v:Value) (l:List Pc) (hl:l.length ≤ 3298534883328) (w:World) (h:KR pgE w v l):Calls Tryz.prog 47 #[v] w fun e w'=>∃ P c,e=.returned (.slice P l.length c)∧w'.ownsRow w.heap.size 100 3 (.slice P l.length c) l.length (pgE.fl l)∧Below w.heap.size w w':=by
  by_cases hv:v=.slice none 0 0
  · subst hv
    have hln:l=[]:=by
      obtain ⟨P,c,e⟩:=h.form
      injection e with _ e _
      exact List.eq_nil_of_length_eq_zero e.symm
    subst hln
    have hcmp:∀ W,(binOp .eql 71 (.slice none 0 0) (.slice none 0 0)).run Tryz.prog W=.ok (.bool true) W:=fun W=>by kernel_rfl
    clear h
    go_enter Tryz.func47,Tryz.ntmps47
    go_wp2
    go_returns
    exact ⟨none,0,rfl,⟨rfl,Or.inl ⟨rfl,rfl⟩⟩,Below.refl _ _⟩
  · obtain ⟨ad,c,rfl⟩:∃ ad c,v=.slice (some ad) l.length c:=by
      rcases h with ⟨rfl,p,c,rfl,hpc⟩ | ⟨g,o,c,rfl,_⟩
      · cases p with
        | none=>obtain rfl:=hpc rfl; exact absurd rfl hv
        | some ad=>exact ⟨ad,c,rfl⟩
      · exact ⟨_,c,rfl⟩
    obtain ⟨n,hn⟩:∃ n,l.length=n:=⟨_,rfl⟩
    have hcmp:∀ W,(binOp .eql 71 (.slice (some ad) n c) (.slice none 0 0)).run Tryz.prog W=.ok (.bool false) W:=fun W=>by kernel_rfl
    obtain ⟨W1,hW1⟩:∃ W1,w.alloc (.cells #[] 100)=W1:=⟨_,rfl⟩
    have hb1:Below w.heap.size w W1:=by rw [← hW1]; exact (Below.refl _ _).alloc (Nat.le_refl _) _
    have HO1:Hid (W1.ownsRow w.heap.size 100 3 (.slice (some ⟨w.heap.size,0,none⟩) 0 0) 0 (pgE.fl [])):=⟨rfl,Or.inr ⟨w.heap.size,0,#[],rfl,Nat.le_refl _,by rw [← hW1]; exact one_alloc _ _,Nat.le_refl _,Nat.zero_le _,rfl,rfl⟩⟩
    rw [hn] at h
    have HA1:Hid (n=([]:List Pc).length + l.length):=by show n=_; rw [hn]; exact (Nat.zero_add _).symm
    have HA2:Hid (([]:List Pc).length + l.length ≤ maxLen):=by
      show _ ≤ _
      rw [List.length_nil,Nat.zero_add]
      exact Nat.le_trans hl (by decide)
    have HA3:Hid ((([]:List Pc).length + l.length) * pgE.by_ ≤ 140737488355328):=by
      show _ * 40 ≤ _
      rw [List.length_nil,Nat.zero_add]
      omega
    have HKR:Hid (KR pgE W1 (.slice (some ad) n c) l):=h.on hb1
    have HB1:Hid (Below w.heap.size w W1):=hb1
    have HN:Hid (l.length=n):=hn
    have HL:Hid (n ≤ 3298534883328):=by show _ ≤ _; rw [← hn]; exact hl
    rw [hn]
    clear h hb1 hv hl hn
    go_enter Tryz.func47,Tryz.ntmps47
    go_upto_region 3 with fail
    go_wp2_with (first
      | (at_builtin; refine wpList_app pgOk rfl (.tmp 5) (.tmp 6) rfl w.heap.size (.slice (some ⟨w.heap.size,0,none⟩) 0 0) [] 0 rfl rfl HO1.out (.slice (some ad) n c) l rfl HKR.out n HA1.out HA2.out HA3.out HB1.out.size ?_; intro v3 w3 ho3 hg3; obtain ⟨P9,k9,hkf⟩:=own_form ho3; subst hkf)
      | go_in)
    have HB3:Hid (Below w.heap.size w w3):=HB1.out.grown hg3 HB1.out.size (fun q hq=>(World.ownsRow.lt HO1.out q hq).1)
    have HO3:Hid (w3.ownsRow w.heap.size 100 3 (.slice P9 n k9) n (pgE.fl l)):=ho3
    clear ho3 hg3 hW1
    go_wp2
    go_returns
    exact ⟨P9,k9,rfl,HO3.out,HB3.out⟩
set_option maxHeartbeats 400000 in
set_option maxRecDepth 100000 in
theorem cloneQ_any (v:Value) (l:List Pq) (hl:l.length ≤ 3298534883328) (w:World) (h:KR plnE w v l):Calls Tryz.prog 49 #[v] w fun e w'=>∃ P c,e=.returned (.slice P l.length c)∧w'.ownsRow w.heap.size 91 3 (.slice P l.length c) l.length (plnE.fl l)∧Below w.heap.size w w':=by
  by_cases hv:v=.slice none 0 0
  · subst hv
    have hln:l=[]:=by
      obtain ⟨P,c,e⟩:=h.form
      injection e with _ e _
      exact List.eq_nil_of_length_eq_zero e.symm
    subst hln
    have hcmp:∀ W,(binOp .eql 72 (.slice none 0 0) (.slice none 0 0)).run Tryz.prog W=.ok (.bool true) W:=fun W=>by kernel_rfl
    clear h
    go_enter Tryz.func49,Tryz.ntmps49
    go_wp2
    go_returns
    exact ⟨none,0,rfl,⟨rfl,Or.inl ⟨rfl,rfl⟩⟩,Below.refl _ _⟩
  · obtain ⟨ad,c,rfl⟩:∃ ad c,v=.slice (some ad) l.length c:=by
      rcases h with ⟨rfl,p,c,rfl,hpc⟩ | ⟨g,o,c,rfl,_⟩
      · cases p with
        | none=>obtain rfl:=hpc rfl; exact absurd rfl hv
        | some ad=>exact ⟨ad,c,rfl⟩
      · exact ⟨_,c,rfl⟩
    obtain ⟨n,hn⟩:∃ n,l.length=n:=⟨_,rfl⟩
    have hcmp:∀ W,(binOp .eql 72 (.slice (some ad) n c) (.slice none 0 0)).run Tryz.prog W=.ok (.bool false) W:=fun W=>by kernel_rfl
    obtain ⟨W1,hW1⟩:∃ W1,w.alloc (.cells #[] 91)=W1:=⟨_,rfl⟩
    have hb1:Below w.heap.size w W1:=by rw [← hW1]; exact (Below.refl _ _).alloc (Nat.le_refl _) _
    have HO1:Hid (W1.ownsRow w.heap.size 91 3 (.slice (some ⟨w.heap.size,0,none⟩) 0 0) 0 (plnE.fl [])):=⟨rfl,Or.inr ⟨w.heap.size,0,#[],rfl,Nat.le_refl _,by rw [← hW1]; exact one_alloc _ _,Nat.le_refl _,Nat.zero_le _,rfl,rfl⟩⟩
    rw [hn] at h
    have HA1:Hid (n=([]:List Pq).length + l.length):=by show n=_; rw [hn]; exact (Nat.zero_add _).symm
    have HA2:Hid (([]:List Pq).length + l.length ≤ maxLen):=by
      show _ ≤ _
      rw [List.length_nil,Nat.zero_add]
      exact Nat.le_trans hl (by decide)
    have HA3:Hid ((([]:List Pq).length + l.length) * plnE.by_ ≤ 140737488355328):=by
      show _ * 24 ≤ _
      rw [List.length_nil,Nat.zero_add]
      omega
    have HKR:Hid (KR plnE W1 (.slice (some ad) n c) l):=h.on hb1
    have HB1:Hid (Below w.heap.size w W1):=hb1
    have HN:Hid (l.length=n):=hn
    have HL:Hid (n ≤ 3298534883328):=by show _ ≤ _; rw [← hn]; exact hl
    rw [hn]
    clear h hb1 hv hl hn
    go_enter Tryz.func49,Tryz.ntmps49
    go_upto_region 3 with fail
    go_wp2_with (first
      | (at_builtin; refine wpList_app plnOk rfl (.tmp 5) (.tmp 6) rfl w.heap.size (.slice (some ⟨w.heap.size,0,none⟩) 0 0) [] 0 rfl rfl HO1.out (.slice (some ad) n c) l rfl HKR.out n HA1.out HA2.out HA3.out HB1.out.size ?_; intro v3 w3 ho3 hg3; obtain ⟨P9,k9,hkf⟩:=own_form ho3; subst hkf)
      | go_in)
    have HB3:Hid (Below w.heap.size w w3):=HB1.out.grown hg3 HB1.out.size (fun q hq=>(World.ownsRow.lt HO1.out q hq).1)
    have HO3:Hid (w3.ownsRow w.heap.size 91 3 (.slice P9 n k9) n (plnE.fl l)):=ho3
    clear ho3 hg3 hW1
    go_wp2
    go_returns
    exact ⟨P9,k9,rfl,HO3.out,HB3.out⟩
end Go.Proofs.YtbgbmfmgdgalbaaGreatDoor
namespace Go.Proofs.YtbgbmfmgdgalbaaGreatDoor
open Go.RowKit Go.Maps
set_option linter.unusedVariables false
set_option linter.unusedSimpArgs false
def FilB (W:World) (a:Nat):Prop:=∃ cs t,W.heap[a]?=some (.cells cs t)
theorem infoF:∃ j:TypeInfo,Tryz.prog.info? 85=some j∧j.size ≠ 0:=by
  have h:(Tryz.prog.info? 85).map (·.size)=some 4:=by kernel_rfl
  cases hq:Tryz.prog.info? 85 with
  | none=>rw [hq] at h; cases h
  | some j=>rw [hq] at h; exact ⟨j,rfl,by simp at h; omega⟩
theorem equalP (W:World) (a b:Nat) (ha:FilB W a) (hb:FilB W b):(Op.equal 83 (ptr (some a)) (ptr (some b))).run Tryz.prog W=.ok (decide (a=b)) W:=by
  obtain ⟨j,hj,hs⟩:=infoF
  by_cases h:a=b
  · subst h
    have h:∀ d:Nat,(Op.equalIn (d + 1) 83 (.pointer (some ⟨a,0,none⟩)) (.pointer (some ⟨a,0,none⟩))).run Tryz.prog W=.ok true W:=fun d=>by
      simp [Op.equalIn,run_underlying Tryz.underlying83,sizeOf,typeInfo,hj,run_sameAddr_same]
    rw [decide_eq_true rfl]
    exact h 9999
  · obtain ⟨ca,ta,ha⟩:=ha
    obtain ⟨cb,tb,hb⟩:=hb
    have hne:(⟨a,0,none⟩:Addr) ≠ ⟨b,0,none⟩:=fun e=>h (by injection e)
    have h2:∀ d:Nat,(Op.equalIn (d + 1) 83 (.pointer (some ⟨a,0,none⟩)) (.pointer (some ⟨b,0,none⟩))).run Tryz.prog W=.ok false W:=fun d=>by
      simp [Op.equalIn,run_underlying Tryz.underlying83,sizeOf,typeInfo,hj,hs,run_sameAddr_other W hne ha hb]
    rw [decide_eq_false h]
    exact h2 9999
def findL (x:Nat):List (Nat × Nat) → Nat → Option (Nat × Value)
  | [],_=>none
  | y :: L,i=>if x=y.1 then some (i,ptr (some y.2)) else findL x L (i + 1)
def lookL (x:Nat) (L:List (Nat × Nat)):Option Nat:=(L.find? (fun y=>decide (y.1=x))).map (·.2)
theorem findL_look (x:Nat):∀ (L:List (Nat × Nat)) (i:Nat),(findL x L i).map (·.2)=(lookL x L).map (fun b=>ptr (some b))
  | [],_=>rfl
  | y :: L,i=>by
    unfold findL lookL
    by_cases h:x=y.1
    · rw [if_pos h,List.find?_cons_of_pos (by simp [h])]
      rfl
    · rw [if_neg h,List.find?_cons_of_neg (by simp; exact fun e=>h e.symm)]
      exact findL_look x L (i + 1)
theorem ask_run (W:World) (x:Nat) (hx:FilB W x):∀ (es:List MapEntry) (L:List (Nat × Nat)) (i:Nat),es.map (fun e=>(e.key,e.val))=L.map (fun y=>(ptr (some y.1),ptr (some y.2))) → (∀ y ∈ L,FilB W y.1) → (Instr.findAsking 83 (ptr (some x)) es i).run Tryz.prog W=.ok (findL x L i) W:=by
  intro es
  induction es with
  | nil =>
    intro L i h _
    have:L=[]:=by simpa using h
    subst this
    rfl
  | cons e es ih =>
    intro L i h hL
    cases L with
    | nil=>simp at h
    | cons y L =>
      simp only [List.map_cons,List.cons.injEq,Prod.mk.injEq] at h
      obtain ⟨⟨h1,h2⟩,h3⟩:=h
      have he:=equalP W x y.1 hx (hL y (by simp))
      have hr:=ih L (i + 1) h3 (fun z hz=>hL z (by simp [hz]))
      unfold Instr.findAsking findL
      rw [Sem.run_bind,h1,he]
      by_cases hxy:x=y.1
      · rw [decide_eq_true hxy,if_pos hxy,h2]
        rfl
      · rw [decide_eq_false hxy,if_neg hxy]
        exact hr
theorem key_run (W:World) (x:Nat) (hx:FilB W x) (es:List MapEntry) (L:List (Nat × Nat)) (h:es.map (fun e=>(e.key,e.val))=L.map (fun y=>(ptr (some y.1),ptr (some y.2)))) (hL:∀ y ∈ L,FilB W y.1):(Instr.findKey 83 (ptr (some x)) es).run Tryz.prog W=.ok (findL x L 0) W:=by
  unfold Instr.findKey
  rw [Sem.run_bind,run_underlying Tryz.underlying83]
  cases es with
  | nil =>
    have:L=[]:=by simpa using h
    subst this
    rfl
  | cons e es =>
    have hk:∃ y,e.key=ptr (some y):=by
      cases L with
      | nil=>simp at h
      | cons y L =>
        simp only [List.map_cons,List.cons.injEq,Prod.mk.injEq] at h
        exact ⟨_,h.1.1⟩
    obtain ⟨y,hy⟩:=hk
    have hn:∀ te,Instr.findNow (.pointer te) (ptr (some x)) (e :: es) 0=none:=fun te=>by
      unfold Instr.findNow
      rw [hy]
      rfl
    simp only [Result.andThen]
    rw [hn]
    exact ask_run W x hx (e :: es) L 0 h hL
structure TwM (W:World) (mb:Nat) (L:List (Nat × Nat)):Prop where
  ob:∃ (es:Array MapEntry) (clock:Nat),W.heap[mb]?=some (.map es clock)∧es.toList.map (fun e=>(e.key,e.val))=L.map (fun y=>(ptr (some y.1),ptr (some y.2)))
  fil:∀ y ∈ L,FilB W y.1
theorem check_run (W:World) (em:Bool) (x:Nat):(Instr.checkKey em 10000 83 (ptr (some x))).run Tryz.prog W=.ok () W:=by
  unfold Instr.checkKey
  rw [Sem.run_bind,run_underlying Tryz.underlying83]
  rfl
theorem getM {W:World} {mb:Nat} {es:Array MapEntry} {clock:Nat} (hb:W.heap[mb]?=some (.map es clock)):(getObj mb).run Tryz.prog W=.ok (.map es clock) W:=by
  first | exact run_getObj_map hb | exact run_getObj_map _ _ _ _ hb | exact run_getObj_map _ _ _ hb
theorem setM {W:World} {mb:Nat} {es:Array MapEntry} {clock:Nat} (o:Obj) (hb:W.heap[mb]?=some (.map es clock)):(setObj mb o).run Tryz.prog W=.ok () { W with heap:=W.heap.setIfInBounds mb o }:=by
  simp [setObj,Sem.run,hb]
theorem TwM.look {W:World} {mb:Nat} {L:List (Nat × Nat)} (h:TwM W mb L) {x:Nat} (hx:FilB W x):(Instr.lookup 96 (.map (some mb)) (ptr (some x)) false).run Tryz.prog W=.ok (ptr (lookL x L)) W:=by
  obtain ⟨⟨es,clock,hb,he⟩,hf⟩:=h
  have hk:=key_run W x hx es.toList L he hf
  have hl:=findL_look x L 0
  unfold Instr.lookup
  simp only [Sem.run_bind,Sem.run_pure,run_underlying Tryz.underlying96,Result.andThen_ok,getM hb,check_run,hk]
  cases hq:findL x L 0 with
  | none =>
    rw [hq] at hl
    have:lookL x L=none:=by cases hz:lookL x L with | none=>rfl | some b=>rw [hz] at hl; cases hl
    rw [this]
    simp only [Sem.run_bind,Sem.run_pure,zeroP,Result.andThen_ok]
    rfl
  | some z =>
    rw [hq] at hl
    obtain ⟨i,v⟩:=z
    have:∃ b,lookL x L=some b∧v=ptr (some b):=by
      cases hz:lookL x L with
      | none=>rw [hz] at hl; cases hl
      | some b=>rw [hz] at hl; exact ⟨b,rfl,by simpa using hl⟩
    obtain ⟨b,hb1,hb2⟩:=this
    rw [hb1,hb2]
    simp only [Sem.run_bind,Sem.run_pure,Result.andThen_ok]
    rfl
theorem TwM.put {W:World} {mb:Nat} {L:List (Nat × Nat)} (h:TwM W mb L) {x:Nat} (hx:FilB W x) (hn:lookL x L=none) (r:Nat):∃ w',(Instr.mapUpdate 96 (.map (some mb)) (ptr (some x)) (ptr (some r))).run Tryz.prog W=.ok () w'∧TwM w' mb (L ++ [(x,r)])∧Only W w' mb:=by
  obtain ⟨⟨es,clock,hb,he⟩,hf⟩:=h
  have hk:=key_run W x hx es.toList L he hf
  have hl:=findL_look x L 0
  rw [hn] at hl
  have hq:findL x L 0=none:=by cases hz:findL x L 0 with | none=>rfl | some z=>rw [hz] at hl; cases hl
  rw [hq] at hk
  have hlt:mb < W.heap.size:=row_lt hb
  refine ⟨{ W with heap:=W.heap.setIfInBounds mb (.map (es.push { key:=ptr (some x),val:=ptr (some r),born:=clock }) (clock + 1)) },?_,⟨⟨es.push { key:=ptr (some x),val:=ptr (some r),born:=clock },clock + 1,?_,?_⟩,?_⟩,?_⟩
  · unfold Instr.mapUpdate
    simp only [Sem.run_bind,Sem.run_pure,run_underlying Tryz.underlying96,Result.andThen_ok,getM hb,check_run,hk,setM _ hb]
  · show (W.heap.setIfInBounds mb _)[mb]?=_
    rw [Array.getElem?_setIfInBounds_self_of_lt hlt]
  · simp [he]
  · have hoth:∀ k,k ≠ mb → (W.heap.setIfInBounds mb (.map (es.push { key:=ptr (some x),val:=ptr (some r),born:=clock }) (clock + 1)))[k]?=W.heap[k]?:=fun k hk=>Array.getElem?_setIfInBounds_ne (fun e=>hk e.symm)
    have hto:∀ a,FilB W a → FilB { W with heap:=W.heap.setIfInBounds mb (.map (es.push { key:=ptr (some x),val:=ptr (some r),born:=clock }) (clock + 1)) } a:=fun a ha=>by
      obtain ⟨cs,t,ha⟩:=ha
      exact ⟨cs,t,(hoth a (fun e=>by subst e; rw [hb] at ha; cases ha)).trans ha⟩
    intro y hy
    rw [List.mem_append] at hy
    rcases hy with hy | hy
    · exact hto _ (hf y hy)
    · have:y=(x,r):=by simpa using hy
      rw [this]; exact hto _ hx
  · exact ⟨rfl,rfl,rfl,by simp,fun k hk=>Array.getElem?_setIfInBounds_ne (fun e=>hk e.symm)⟩
end Go.Proofs.YtbgbmfmgdgalbaaGreatDoor
namespace Go.Proofs.YtbgbmfmgdgalbaaGreatDoor
open Go.RowKit Go.Maps
set_option linter.unusedVariables false
theorem own_zero' {w:World} {b e k n:Nat} {v:Value} {xs:List Value} (h:w.ownsRow b e k v n xs):w.ownsRow 0 e k v n xs:=by
  obtain ⟨h0,h1 | ⟨g,cap,cur,h1,hb,r⟩⟩:=h
  · exact ⟨h0,Or.inl h1⟩
  · exact ⟨h0,Or.inr ⟨g,cap,cur,h1,Nat.zero_le _,r⟩⟩
theorem setCellsQ (g T:Nat):∀ (vs:List Value) (pre old:List Value) (w:World),old.length=vs.length → w.heap[g]?=some (.cells (pre ++ old).toArray T) → (w.setCells g pre.length vs).heap[g]?=some (.cells (pre ++ vs).toArray T)∧Only w (w.setCells g pre.length vs) g:=by
  intro vs
  induction vs with
  | nil =>
    intro pre old w hl h
    have:old=[]:=List.eq_nil_of_length_eq_zero hl
    subst this
    exact ⟨by simpa [World.setCells] using h,Only.refl _ _⟩
  | cons v vs ih =>
    intro pre old w hl h
    cases old with
    | nil=>simp at hl
    | cons o old =>
      have h1:(w.setCell ⟨g,pre.length,none⟩ v).heap[g]?=some (.cells ((pre ++ [v]) ++ old).toArray T):=by
        rw [heap_setCell_same _ _ _ _ _ _ h]
        simp
      have h2:=ih (pre ++ [v]) old _ (by simpa using hl) h1
      rw [List.length_append] at h2
      refine ⟨?_,?_⟩
      · have:=h2.1
        simpa [World.setCells] using this
      · have:=h2.2
        have h3:Only w (w.setCell ⟨g,pre.length,none⟩ v) g:=(Only.refl _ _).set _ _
        exact h3.trans (by simpa [World.setCells] using this)
end Go.Proofs.YtbgbmfmgdgalbaaGreatDoor
namespace Go.Proofs.YtbgbmfmgdgalbaaGreatDoor
open Go.RowKit Go.Maps
set_option linter.unusedVariables false
set_option linter.unusedSimpArgs false
theorem ps_fl (ps:List ByteArray):psE.fl ps=ps.map Value.string:=by
  unfold ET.fl
  induction ps with
  | nil=>rfl
  | cons x p ih=>rw [List.flatMap_cons,ih]; rfl
theorem cloneS_any (v:Value) (ps:List ByteArray) (hl:ps.length ≤ 4398046511104) (w:World) (h:w.ownsRow 0 9 1 v ps.length (psE.fl ps)):Calls Tryz.prog 89 #[v] w fun e w'=>∃ P c,e=.returned (.slice P ps.length c)∧w'.ownsRow w.heap.size 9 1 (.slice P ps.length c) ps.length (psE.fl ps)∧Below w.heap.size w w':=by
  rcases KR.own (E:=psE) h rfl with ⟨hn,p,c,rfl,hpc⟩ | ⟨g,o,c,rfl,hc⟩
  · subst hn
    cases p with
    | none=>exact (Tryz.slices_Clone_string_nil 0 c w).mono (fun e w' h=>⟨none,0,h.1,⟨rfl,Or.inl ⟨rfl,rfl⟩⟩,by rw [h.2]; exact Below.refl _ _⟩)
    | some a=>exact (Tryz.slices_Clone_string_zero a c w).mono (fun e w' h=>by
        obtain ⟨v',h1,h2,_,h4⟩:=h
        obtain ⟨P,c,rfl⟩:=own_form h2
        exact ⟨P,c,h1,h2,h4⟩)
  · refine (Tryz.slices_Clone_string g o ps.length c ps w (Nat.le_refl _) (by omega) (fun j hj=>?_)).mono (fun e w' h=>?_)
    · refine hc j _ ?_
      rw [ps_fl,List.getElem?_map,List.getElem?_eq_getElem hj]
      simp [List.getD,List.getElem?_eq_getElem hj]
    · obtain ⟨v',h1,h2,_,h4⟩:=h
      rw [List.take_length] at h2
      obtain ⟨P,c',rfl⟩:=own_form h2
      exact ⟨P,c',h1,by rw [ps_fl]; exact h2,h4⟩
theorem szFi:(Tryz.prog.info? 85).map (·.size)=some 4:=by kernel_rfl
theorem ldFi {ops:Array Oper} {rest:List Oper} {op:Oper} {a:Act} {w:World} {Q:Exit → Act → World → Prop} (C:Array Value) (r:Nat) (x:Operand) (hg:op.guard=none) (ho:op.op=.load 85 x) (hx:a.eval x=.pointer (some ⟨r,0,none⟩)) (hc:w.heap[r]?=some (.cells C 85)) (h4:C.size=4) (h:wpList Tryz.prog ops Q rest (a.put op.dst (.agg C)) w):wpList Tryz.prog ops Q (op :: rest) a w:=by
  refine wpList_load_mid hg _ x ho r 0 hx C.toList _ (fun j v hv=>by rw [cell_of_row _ _ _ _ _ _ hc]; simpa using hv) Tryz.underlying85 rfl (by rw [Array.length_toList,h4]; exact szFi) ?_
  rw [Array.toArray_toList]
  exact h
theorem stFi {ops:Array Oper} {rest:List Oper} {op:Oper} {a:Act} {w:World} {Q:Exit → Act → World → Prop} (hg:op.guard=none) (x y:Operand) (ho:op.op=.store 85 x y) (g:Nat) (C Z:Array Value) (hx:a.eval x=.pointer (some ⟨g,0,none⟩)) (hy:a.eval y=.agg C) (h4:C.size=4) (h1:C.all (·.oneCell')=true) (hZ:Z.size=4) (hr:w.heap[g]?=some (.cells Z 85)) (h:∀ W,W.heap[g]?=some (.cells C 85) → Only w W g → wpList Tryz.prog ops Q rest (a.put op.dst undef) W):wpList Tryz.prog ops Q (op :: rest) a w:=by
  refine wpList_store_mid hg 85 x y ho g 0 C hx hy ?_ (by rw [h4]; exact szFi) h1 ?_
  · intro j hj
    rw [h4] at hj
    refine ⟨?_,frozen_of_row _ _ _ _ _ hr⟩
    rw [cell_of_row _ _ _ _ _ _ hr]
    simp; omega
  have h3:=setCellsQ g 85 C.toList [] Z.toList w (by simp [h4,hZ]) (by simpa using hr)
  rw [List.length_nil] at h3
  simp only [List.nil_append,Array.toArray_toList] at h3
  exact h _ h3.1 h3.2
def zFi:Array Value:=#[.int .i64 0,.slice none 0 0,.int .i64 0,.int .i64 0]
theorem alFi {ops:Array Oper} {rest:List Oper} {op:Oper} {a:Act} {w:World} {Q:Exit → Act → World → Prop} (hg:op.guard=none) (ho:op.op=.alloc 85) (Z:Array Value) (hZ:Z=zFi) (h:wpList Tryz.prog ops Q rest (a.put op.dst (.pointer (some ⟨w.heap.size,0,none⟩))) (w.alloc (.cells Z 85))):wpList Tryz.prog ops Q (op :: rest) a w:=by
  subst hZ
  refine wpList_plain hg fun K hK=>?_
  unfold Oper.wp
  have:(execOp a.eval op).run Tryz.prog w=.ok (.value (.pointer (some ⟨w.heap.size,0,none⟩))) (w.alloc (.cells zFi 85)):=by
    unfold execOp
    rw [ho]
    kernel_rfl
  rw [this]
  exact hK _ _ h
theorem TwM.to {W W':World} {mb:Nat} {L:List (Nat × Nat)} (h:TwM W mb L) (hb:Below W.heap.size W W'):TwM W' mb L:=by
  obtain ⟨⟨es,clock,h1,h2⟩,hf⟩:=h
  refine ⟨⟨es,clock,(hb.block mb (row_lt h1)).trans h1,h2⟩,fun y hy=>?_⟩
  obtain ⟨cs,t,h3⟩:=hf y hy
  exact ⟨cs,t,(hb.block _ (row_lt h3)).trans h3⟩
theorem FileAt.filB {W:World} {b i:Nat} {x:Fi} {pv:Value} {ps:List ByteArray} (h:FileAt W b i x pv ps):FilB W b:=⟨_,_,h.blk⟩
theorem lookL_new (L:List (Nat × Nat)) (a r:Nat) (h:lookL a L=none):lookL a (L ++ [(a,r)])=some r:=by
  unfold lookL at *
  have hn:L.find? (fun y=>decide (y.1=a))=none:=by cases hq:L.find? (fun y=>decide (y.1=a)) with | none=>rfl | some z=>rw [hq] at h; cases h
  rw [List.find?_append,hn]
  simp
set_option maxHeartbeats 1000000 in
set_option maxRecDepth 20000 in
theorem twin_old (a b mb:Nat) (L:List (Nat × Nat)) (w:World) (ha:FilB w a) (hm:TwM w mb L) (hl:lookL a L=some b):Calls Tryz.prog 48 #[ptr (some a),.map (some mb)] w fun e w'=>e=.returned (ptr (some b))∧w'=w:=by
  have hk:=hm.look ha
  rw [hl] at hk
  have hk':(Instr.lookup 96 (.map (some mb)) (.pointer (some ⟨a,0,none⟩)) false).run Tryz.prog w=.ok (.pointer (some ⟨b,0,none⟩)) w:=hk
  clear ha hm hl hk
  show Calls Tryz.prog 48 #[.pointer (some ⟨a,0,none⟩),.map (some mb)] w _
  go_enter Tryz.func48,Tryz.ntmps48
  go_wp2
  go_returns
  exact ⟨rfl,rfl⟩
def TwinP (w:World) (i:Nat) (x:Fi) (ps:List ByteArray) (a mb:Nat) (L:List (Nat × Nat)) (e:Ending) (w':World):Prop:=∃ R pv',e=.returned (ptr (some R))∧w.heap.size ≤ R∧FileAt w' R i x pv' ps∧(∀ k,pv'.ownBlock=some k → w.heap.size ≤ k)∧TwM w' mb (L ++ [(a,R)])∧ModP (fun k=>k=mb) w w'
set_option maxHeartbeats 4000000 in
set_option maxRecDepth 100000 in
theorem twin_new (a i mb:Nat) (x:Fi) (pv:Value) (ps:List ByteArray) (L:List (Nat × Nat)) (w:World) (hf:FileAt w a i x pv ps) (hm:TwM w mb L) (hl:lookL a L=none):Calls Tryz.prog 48 #[ptr (some a),.map (some mb)] w fun e w'=>TwinP w i x ps a mb L e w':=by
  have hk:=hm.look hf.filB
  rw [hl] at hk
  obtain ⟨PV,cv,hpv⟩:=own_form hf.own
  subst hpv
  obtain ⟨C,hC⟩:∃ C:Array Value,C=#[.int .i64 ((i + 1:Nat):Int),.slice PV ps.length cv,.int .i64 (x.d.size:Int),.int .i64 (x.s:Int)]:=⟨_,rfl⟩
  have HC:Hid (C=#[.int .i64 ((i + 1:Nat):Int),.slice PV ps.length cv,.int .i64 (x.d.size:Int),.int .i64 (x.s:Int)]):=hC
  have HCS:Hid (C.size=4):=by show _=_; rw [hC]; rfl
  have HC1:Hid (C.all (·.oneCell')=true):=by
    show _=_
    rw [hC]
    simp only [List.all_toArray,List.all_cons,List.all_nil,Bool.and_true]
    rfl
  have HCB:Hid (w.heap[a]?=some (.cells C 85)):=by show _=_; rw [hC]; exact hf.blk
  obtain ⟨Z,hZ⟩:∃ Z,Z=zFi:=⟨_,rfl⟩
  have HZ:Hid (Z=zFi):=hZ
  have HZS:Hid (Z.size=4):=by show _=_; rw [hZ]; rfl
  have HF:Hid (FileAt w a i x (.slice PV ps.length cv) ps):=hf
  have HM:Hid (TwM w mb L):=hm
  have HLK:Hid (lookL a L=none):=hl
  have hk0:(Instr.lookup 96 (.map (some mb)) (.pointer (some ⟨a,0,none⟩)) false).run Tryz.prog w=.ok (.pointer none) w:=hk
  clear hf hm hl hC hZ hk
  show Calls Tryz.prog 48 #[.pointer (some ⟨a,0,none⟩),.map (some mb)] w _
  go_enter Tryz.func48,Tryz.ntmps48
  go_upto_region 3 with (first
    | (refine ldFi C a _ rfl rfl rfl HCB.out HCS.out ?_)
    | (refine alFi rfl rfl Z HZ.out ?_)
    | (refine stFi rfl _ _ rfl w.heap.size C Z rfl rfl HCS.out HC1.out HZS.out (one_alloc _ _) ?_; intro Wo hro hoo))
  have hbo:Below w.heap.size w Wo:=((Below.refl _ w).alloc (Nat.le_refl _) _).trans (hoo.below (Nat.le_refl _))
  obtain ⟨R,hR⟩:∃ R,w.heap.size=R:=⟨_,rfl⟩
  have HRR:Hid (w.heap.size=R):=hR
  rw [hR] at hro
  rw [hR]
  have HRO:Hid (Wo.heap[R]?=some (.cells C 85)):=hro
  have HBO:Hid (Below w.heap.size w Wo):=hbo
  have HFO:Hid (FileAt Wo a i x (.slice PV ps.length cv) ps):=HF.out.to (hbo.block a (row_lt HF.out.blk)) (fun k hk=>hbo.block k (own_lt HF.out.own hk))
  obtain ⟨_,d1,_,_,_⟩:=file_cells HFO.out.blk
  have HCL:Hid _:=cloneS_any (.slice PV ps.length cv) ps (by have:=HF.out.few; have:=HF.out.big; omega) Wo HFO.out.own
  clear hk0 hbo hoo hro hR
  go_wp2_with fail
  refine (show Calls _ _ _ _ _ from HCL.out).mono ?_
  rintro e w2 ⟨P2,c2,rfl,ho2,hb2⟩
  have hr2:w2.heap[R]?=some (.cells C 85):=keep_row HRO.out hb2
  rw [HC.out] at hr2
  obtain ⟨_,z1,_,_,zf⟩:=file_cells hr2
  have zf1:=zf 1
  obtain ⟨W3,hW3⟩:∃ W3,w2.setCell ⟨R,1,none⟩ (.slice P2 ps.length c2)=W3:=⟨_,rfl⟩
  have hr3:W3.heap[R]?=some (.cells #[.int .i64 ((i + 1:Nat):Int),.slice P2 ps.length c2,.int .i64 (x.d.size:Int),.int .i64 (x.s:Int)] 85):=by rw [← hW3]; exact heap_setCell_same w2 R 1 _ _ _ hr2
  have hon3:Only w2 W3 R:=by rw [← hW3]; exact (Only.refl _ _).set _ _
  have hge2:∀ k,(Value.slice P2 ps.length c2).ownBlock=some k → Wo.heap.size ≤ k:=fun k hk=>(World.ownsRow.lt ho2 k hk).1
  have hRlt:R < Wo.heap.size:=row_lt HRO.out
  have ho3:W3.ownsRow 0 9 1 (.slice P2 ps.length c2) ps.length (psE.fl ps):=own_to (own_zero' ho2) (fun k hk=>hon3.other k (fun e=>by have:=hge2 k hk; omega))
  have HF3:Hid (FileAt W3 R i x (.slice P2 ps.length c2) ps):=⟨hr3,ho3,HF.out.jn,HF.out.few,HF.out.big,HF.out.sf⟩
  have hb3:Below w.heap.size w W3:=(HBO.out.trans (hb2.mono HBO.out.size)).trans (hon3.below (by rw [HRR.out]; exact Nat.le_refl _))
  have HB3:Hid (Below w.heap.size w W3):=hb3
  have hfa:FilB W3 a:=by
    obtain ⟨cs,t,h⟩:=HF.out.filB
    exact ⟨cs,t,(hb3.block a (row_lt h)).trans h⟩
  have hm3:TwM W3 mb L:=HM.out.to hb3
  obtain ⟨W4,hput,hm4,ho4⟩:=hm3.put hfa HLK.out R
  have hk4:=hm4.look (x:=a) (by
    obtain ⟨cs,t,h⟩:=hfa
    exact ⟨cs,t,(ho4.other a (fun e=>by subst e; obtain ⟨es,ck,h5,_⟩:=hm3.ob; rw [h5] at h; cases h)).trans h⟩)
  rw [lookL_new L a R HLK.out] at hk4
  have HM4:Hid (TwM W4 mb (L ++ [(a,R)])):=hm4
  have HO4:Hid (Only W3 W4 mb):=ho4
  have hmne:mb ≠ R:=fun e=>by
    subst e
    obtain ⟨es,ck,h5,_⟩:=hm3.ob
    rw [h5] at hr3; cases hr3
  have HF4:Hid (FileAt W4 R i x (.slice P2 ps.length c2) ps):=HF3.out.to (ho4.other R (fun e=>hmne e.symm)) (fun k hk=>ho4.other k (fun e=>by
    subst e
    obtain ⟨cur,hcu⟩:=own_type ho3 hk
    obtain ⟨es,ck,h5,_⟩:=hm3.ob
    rw [h5] at hcu; cases hcu))
  have HGE:Hid (∀ k,(Value.slice P2 ps.length c2).ownBlock=some k → w.heap.size ≤ k):=fun k hk=>by have:=hge2 k hk; have:=HBO.out.size; omega
  have HMD:Hid (ModP (fun k=>k=mb) w W4):=(ModP.below hb3).trans (ModP.only ho4 rfl)
  have hput':(Instr.mapUpdate 96 (.map (some mb)) (.pointer (some ⟨a,0,none⟩)) (.pointer (some ⟨R,0,none⟩))).run Tryz.prog W3=.ok () W4:=hput
  have hk5:(Instr.lookup 96 (.map (some mb)) (.pointer (some ⟨a,0,none⟩)) false).run Tryz.prog W4=.ok (.pointer (some ⟨R,0,none⟩)) W4:=hk4
  clear hput hk4
  clear zf hr3 hon3 hge2 hRlt ho3 hb3 hfa hm3 hm4 ho4 hmne ho2 hb2 hr2 HCL
  go_upto_region 4 with fail
  try rw [hW3]
  clear hW3
  go_wp2
  go_returns
  exact ⟨R,.slice P2 ps.length c2,rfl,by rw [HRR.out]; exact Nat.le_refl _,HF4.out,HGE.out,HM4.out,HMD.out⟩
end Go.Proofs.YtbgbmfmgdgalbaaGreatDoor
