import Derived.RangeFuncNested
import Derived.RangeFuncBound
import Derived.RangeFuncCalls
import Derived.RangeFuncLeaves
import Derived.Test.YtiefeeoellagnaaGreatDoorAC
import Derived.Shelf.Abstract
import Derived.Shelf.RegionOpen
import Derived.OwnWalkIn
import Derived.TacticsInMore
import Derived.LoopNIn
import Derived.LoopIn
import Derived.Test.YtiefeeoellagnaaGreatDoorAA
import Derived.Deep.Cut
import Derived.Deep.CutRange
set_option linter.unusedVariables false
namespace Go.Proofs.YtiefeeoellagnaaGreatDoor.S6
open Go.RowKit
/-! A range over a function whose rounds,or whose iterator,may panic; seen from the one frame that it stands in. -/
section
variable {P:Program} {f0:FuncId} {n:Nat}
def WpB (P:Program) (f0:FuncId) (c:Code) (Q:Exit → Act → World → Prop) (a:Act) (w:World):Prop:=
  ∀ (b:Frame) (k:List Item) (cs:List Frame),b.roundOf=none → b.fn=f0 →
    ∃ e a' w',Q e a' w'∧ArrivesIn (Machine.fenced P Fence.wide) P (lone (b.atR a (.code c :: k)) cs w) b k cs e a' w'
theorem wpB_of {c:Code} {Q:Exit → Act → World → Prop} {a:Act} {w:World} (h:c.wpIn Fence.wide n P Q a w):WpB P f0 c Q a w:=
  fun b k cs hro _=>h b k cs hro trivial (room_wide _)
theorem wpB_seq {x y:Code} {Q:Exit → Act → World → Prop} {a:Act} {w:World} (h:WpB P f0 x (Exit.then (WpB P f0 y Q) Q) a w):WpB P f0 (Code.seq x y) Q a w:=by
  intro b k cs hro hb
  have h0:(lone (b.atR a (.code (.seq x y) :: k)) cs w).fenced P Fence.wide:=fenced_wide _ _
  obtain ⟨e,a1,w1,hq,harr⟩:=h b (.code y :: k) cs hro hb
  cases e with
  | normal =>
    obtain ⟨e2,a2,w2,hq2,harr2⟩:=hq b k cs hro hb
    exact ⟨e2,a2,w2,hq2,.of_steps (.head h0 stepR_seq harr) harr2⟩
  | exit id=>exact ⟨_,a1,w1,hq,.of_steps (.one h0 stepR_seq) (.pass (x:=.code y) rfl (fun _ _=>.inl (by simp)) harr)⟩
  | goto l=>exact ⟨_,a1,w1,hq,.of_steps (.one h0 stepR_seq) (.pass (x:=.code y) rfl (fun _ _=>.inl (by simp)) harr)⟩
  | ret=>exact ⟨_,a1,w1,hq,.of_steps (.one h0 stepR_seq) (.pass (x:=.code y) rfl (fun _ _=>.inl (by simp)) harr)⟩
  | panic ch=>exact ⟨_,a1,w1,hq,.of_steps (.one h0 stepR_seq) (.pass (x:=.code y) rfl (fun _ _=>.inl (by simp)) harr)⟩
  | outgrown=>exact ⟨_,a1,w1,hq,.of_steps (.one h0 stepR_seq) (.pass (x:=.code y) rfl (fun _ _=>.inl (by simp)) harr)⟩
theorem wpB_block {id:Nat} {c:Code} {Q:Exit → Act → World → Prop} {a:Act} {w:World} (h:WpB P f0 c (Exit.inBlock id Q) a w):WpB P f0 (Code.block id c) Q a w:=by
  intro b k cs hro hb
  have h0:(lone (b.atR a (.code (.block id c) :: k)) cs w).fenced P Fence.wide:=fenced_wide _ _
  obtain ⟨e,a1,w1,hq,harr⟩:=h b (.inBlock id :: k) cs hro hb
  cases e with
  | normal=>exact ⟨.normal,a1,w1,hq,.head h0 stepR_block (StepsIn.trans harr (.one (fenced_wide _ _) stepR_inBlock))⟩
  | exit id' =>
    by_cases hid:id'=id
    · simp only [Exit.inBlock,hid,if_true] at hq
      exact ⟨.normal,a1,w1,hq,.head h0 stepR_block (harr.1 k (by simp [exitTo,hid]))⟩
    · simp only [Exit.inBlock,hid,if_false] at hq
      have this:(id == id')=false:=by simp; exact fun h=>hid h.symm
      have hx:exitTo id' (.inBlock id :: k)=exitTo id' k:=by simp [exitTo,this]
      exact ⟨.exit id',a1,w1,hq,fun k' hk=>.head h0 stepR_block (harr.1 k' (by rw [hx]; exact hk)),
        fun hr' hk=>let ⟨k1,h1,h2⟩:=harr.2 hr' (by rw [hx]; exact hk); ⟨k1,h1,.head h0 stepR_block h2⟩⟩
  | goto l =>
    have hx:gotoIn l (.inBlock id :: k)=gotoIn l k:=by simp [gotoIn]
    exact ⟨_,a1,w1,hq,fun k' hk=>.head h0 stepR_block (harr.1 k' (by rw [hx]; exact hk)),
      fun hr' hk=>let ⟨k1,h1,h2⟩:=harr.2 hr' (by rw [hx]; exact hk); ⟨k1,h1,.head h0 stepR_block h2⟩⟩
  | ret=>exact ⟨_,a1,w1,hq,.of_steps (.one h0 stepR_block) harr⟩
  | panic ch=>exact ⟨_,a1,w1,hq,.of_steps (.one h0 stepR_block) harr⟩
  | outgrown=>exact ⟨_,a1,w1,hq,.of_steps (.one h0 stepR_block) harr⟩
theorem wpB_then {x y:Code} {Q:Exit → Act → World → Prop} {a:Act} {w:World} (h:x.wpIn Fence.wide n P (Exit.then (WpB P f0 y Q) Q) a w):WpB P f0 (Code.seq x y) Q a w:=
  wpB_seq (wpB_of h)
theorem calls_of_wpB {fn:Func} {c:Code} {args:Array Value} {w:World} {R:Ending → World → Prop} (n:Nat)
    (hf:P.funcs[f0]?=some fn) (hb:fn.body=some c)
    (h:WpB P f0 c (bodyPostM Fence.wide n P fn R) { tmps:=args ++ Array.replicate (fn.ntmps - args.size) undef,defers:=[] } w):Calls P f0 args w R:=by
  refine (callsIn_wide (n:=n)).1 ⟨trivial,fun cs hr=>?_⟩
  let b:Frame:={ (default:Frame) with fn:=f0,kind:=.normal,roundOf:=none }
  have henter:Frame.enter P f0 args .normal =
      b.atR { tmps:=args ++ Array.replicate (fn.ntmps - args.size) undef,defers:=[] } [.code c]:=by
    simp [Frame.enter,Frame.atR,hf,hb,b]
  obtain ⟨e,a',w',hq,harr⟩:=h b [] cs rfl rfl
  rw [← henter] at harr
  cases e with
  | normal =>
    obtain ⟨e',w'',fr',hR,hs,hfn,hl⟩:=leaves_stepsInM a'.defers .returning w' { b.atR a' [] with mode:=.returning } cs rfl rfl rfl hf rfl trivial hr hq
    exact ⟨e',w'',fr',hR,ComesIn.of_steps (StepsIn.trans harr (.one (fenced_wide _ _) (stepR_end rfl))) hs,hfn,hl⟩
  | ret =>
    obtain ⟨todo,hs0⟩:=harr.1 rfl
    obtain ⟨e',w'',fr',hR,hs,hfn,hl⟩:=leaves_stepsInM a'.defers .returning w' { b.atR a' todo with mode:=.returning } cs rfl rfl rfl hf rfl trivial hr hq
    exact ⟨e',w'',fr',hR,ComesIn.of_steps hs0 hs,hfn,hl⟩
  | panic chain =>
    obtain ⟨todo,hs0⟩:=harr
    obtain ⟨e',w'',fr',hR,hs,hfn,hl⟩:=leaves_stepsInM a'.defers (.panicking chain) w' { b.atR a' todo with mode:=.panicking chain } cs rfl rfl rfl hf rfl trivial hr hq
    exact ⟨e',w'',fr',hR,ComesIn.of_steps hs0 hs,hfn,hl⟩
  | exit id=>exact hq.elim
  | goto l=>exact hq.elim
  | outgrown=>exact ⟨.outgrown,w',b,hq,harr.resolve_left (by simp [b]),rfl,trivial⟩

def rndPost (P:Program) (l:Nat) (R:Ending → World → Prop):Exit → Act → World → Prop
  | .panic ch,a,w=>a.defers=[]∧R (.panicked ch) w
  | e,a,w=>roundPost P l R e a w
theorem rnd_of_wp {l:Nat} {f:FuncId} {fd:Func} {tmps:Array Value} {assign body:Code} {w:World} {R:Ending → World → Prop} (hf:P.funcs[f]?=some fd)
    (h:assign.wpIn (Fence.wide.inRound l) n P (Exit.then (fun a1 w1=>∃ w2,(Instr.beginRound l).run P w1=.ok () w2∧body.wpIn (Fence.wide.inRound l) n P (rndPost P l R) a1 w2) (fun _ _ _=>False))
      { tmps:=tmps,defers:=[] } w) :
    RoundIn Fence.wide n P l f tmps assign body w R:=by
  refine ⟨trivial,fun c cs hr=>?_⟩
  let b:Frame:={ (default:Frame) with fn:=f,kind:=.normal,roundOf:=some l }
  have hb0:Frame.round l f tmps assign body .normal=b.atR { tmps:=tmps,defers:=[] } [.code assign,.beginRound,.code body]:=by
    simp [Frame.round,Frame.atR,b]
  have hw:∀ m,Machine.fenced P (Fence.wide.inRound l) m:=fun m=>fenced_wide P m
  obtain ⟨e,a1,w1,hq,harr⟩:=h b [.beginRound,.code body] (c :: cs) rfl trivial (room_wide _)
  rw [← hb0] at harr
  cases e with
  | normal =>
    obtain ⟨w2,hbr,hbody⟩:=hq
    have s1:StepsIn (Machine.fenced P (Fence.wide.inRound l)) P (lone (b.atR a1 [.beginRound,.code body]) (c :: cs) w1) (lone (b.atR a1 [.code body]) (c :: cs) w2):=
      .one (hw _) (stepR_beginRound rfl hbr)
    obtain ⟨e2,a2,w3,hq2,harr2⟩:=hbody b [] (c :: cs) rfl trivial (room_wide _)
    cases e2 with
    | normal =>
      obtain ⟨v,w4,hend,hR⟩:=hq2
      exact ⟨.returned v,w4,hR,(StepsIn.trans harr s1).trans (StepsIn.trans harr2 (.one (hw _) (stepR_round_end rfl rfl hend)))⟩
    | ret =>
      obtain ⟨v,w4,hend,hR⟩:=hq2
      obtain ⟨k1,hs⟩:=harr2.2 rfl
      exact ⟨.returned v,w4,hR,(StepsIn.trans harr s1).trans (StepsIn.trans hs (.one (hw _) (stepR_round_ret rfl rfl hend)))⟩
    | exit id =>
      obtain ⟨v,w4,hend,hR⟩:=hq2
      obtain ⟨k1,hk,hs⟩:=harr2.2 rfl rfl
      exact ⟨.returned v,w4,hR,(StepsIn.trans harr s1).trans (StepsIn.trans hs (.one (hw _) (stepR_round_exit rfl rfl hk hend)))⟩
    | goto t =>
      obtain ⟨v,w4,hend,hR⟩:=hq2
      obtain ⟨k1,hk,hs⟩:=harr2.2 rfl rfl
      exact ⟨.returned v,w4,hR,(StepsIn.trans harr s1).trans (StepsIn.trans hs (.one (hw _) (stepR_round_goto rfl rfl hk hend)))⟩
    | panic ch =>
      obtain ⟨hd,hR⟩:=hq2
      obtain ⟨todo,hs⟩:=harr2
      exact ⟨.panicked ch,w3,hR,(StepsIn.trans harr s1).trans (StepsIn.trans hs (.one (hw _) (step_leave_panicked ⟨rfl,hd,fd,hf⟩)))⟩
    | outgrown=>exact hq2.elim
  | exit id=>exact hq.elim
  | goto t=>exact hq.elim
  | ret=>exact hq.elim
  | panic chain=>exact hq.elim
  | outgrown=>exact hq.elim

def KC (B:Nat) (W W':World):Prop:=∀ (k:Nat) (o:Obj),B ≤ k → W.heap[k]?=some o → o.isCells=true → W'.heap[k]?=some o
structure KA (B:Nat) (W W':World):Prop where
  size:W.heap.size ≤ W'.heap.size
  same:∀ (k:Nat) (o:Obj),B ≤ k → W.heap[k]?=some o → W'.heap[k]?=some o
theorem KA.trans {B:Nat} {X Y Z:World} (h:KA B X Y) (k:KA B Y Z):KA B X Z:=⟨Nat.le_trans h.size k.size,fun i o hB hi=>k.same i o hB (h.same i o hB hi)⟩
theorem KA.of_below {B:Nat} {W W':World} (h:Below W.heap.size W W'):KA B W W':=
  ⟨h.size,fun k o _ hk=>(h.block k (Array.getElem?_eq_some_iff.1 hk).1).trans hk⟩
theorem KA.setCell {B:Nat} (W:World) (a:Addr) (v:Value) (h:a.block < B):KA B W (W.setCell a v):=
  ⟨(KeepsWalks.setCell W a v).size,fun k o hk e=>(Below.heap_setCell W a v k (by omega)).trans e⟩
theorem KC.putObj {B:Nat} {W:World} {l:Nat} {o o':Obj} (hl:W.heap[l]?=some o) (ho:o.isCells=false):KC B W (W.putObj l o'):=fun k x _ hk hx=>by
  have:k ≠ l:=by rintro rfl; rw [hl] at hk; cases hk; rw [ho] at hx; cases hx
  exact (World.putObj_heap_other this).trans hk
theorem grown_of_below {A B:World} (h:Below A.heap.size A B):A.grownBy B none:=⟨h.1,h.2,h.3,h.size,fun k hk _=>h.block k hk⟩

def SeqP {α:Type} (n:Nat) (P:Program) (g:Nat) (lb:Array Value) (encs:α → Array Value) (L:List α) (bad:Bool) (pch:List PanicEntry) (box:World → Prop) (B0:Nat):Prop:=
  ∀ (l:Nat) (J Jx:List α → World → Prop) (Jp:World → Prop) (W:World),B0 ≤ W.heap.size → (∀ s A B,J s A → Below A.heap.size A B → J s B) → (∀ s A,J s A → box A) →
    (∀ s A B,Jx s A → Below A.heap.size A B → Jx s B) →
    (∀ pre x W1,pre ++ [x] <+: L → J pre W1 → YieldAt Fence.wide (n - 1) P l (encs x) W1 fun e W' =>
      (e=.returned (.bool true)∧J (pre ++ [x]) W'∧KC B0 W1 W'∧W1.heap.size ≤ W'.heap.size) ∨ (e=.returned (.bool false)∧Jx (pre ++ [x]) W') ∨ (e=.panicked pch∧Jp W')) →
    J [] W →
    CallsIn Fence.wide n P g (#[.func (.yield l) #[] #[]] ++ lb) W fun e W' =>
      ((∃ v,e=.returned v)∧bad=false∧J L W') ∨ ((∃ v,e=.returned v)∧∃ pre,pre <+: L∧Jx pre W') ∨ (e=.panicked pch∧(Jp W' ∨ (bad=true∧J L W')))

def pPost {α:Type} (B:Nat) (pch:List PanicEntry) (I:List α → World → Prop) (Ix:Code → List α → World → Prop) (Ip:World → Prop) (xs:List α) (W:World):Exit → Act → World → Prop
  | .normal,_,W'=>KA B W W'∧I xs W'
  | .ret,_,W'=>KA B W W'∧Ix .ret xs W'
  | .exit id,_,W'=>KA B W W'∧Ix (.exit id) xs W'
  | .goto t,_,W'=>KA B W W'∧Ix (.goto t) xs W'
  | .panic ch,a,W'=>a.defers=[]∧ch=pch∧KA B W W'∧Ip W'
  | .outgrown,_,_=>False

theorem wpB_range {α:Type} {g:Operand} {ps:Array Tmp} {assign body:Code} {Q:Exit → Act → World → Prop} {a:Act} {w:World} {fd:Func} (hfd:P.funcs[f0]?=some fd)
    {gf:Nat} {lb:Array Value} (hg:a.eval g=.func (.func gf) #[] lb) (eg:∀ args w,(callFunc gf args).run P w=.ok (.enter gf args) w)
    {encs:α → Array Value} {L:List α} {bad:Bool} {pch:List PanicEntry} {box:World → Prop} (hseq:SeqP (n - 1) P gf lb encs L bad pch box w.heap.size)
    (hps:∀ x,(encs x).size=ps.size)
    (I:List α → World → Prop) (Ix:Code → List α → World → Prop) (Ip:World → Prop) (hI:OwnFrom w.heap.size I) (hIx:∀ c,OwnFrom w.heap.size (Ix c)) (hIp:OwnFrom w.heap.size (fun (_:Unit) W=>Ip W))
    (hbox:∀ pre W,I pre W → box W) (h0:I [] w) (Ax:α → Act → World → Prop) (hAx:∀ x a',OwnFrom w.heap.size (fun (_:Unit) W=>Ax x a' W))
    (hassign:∀ (l:Nat) (pre:List α) (x:α) (W:World) (K:Act → World → Prop),pre ++ [x] <+: L → I pre W → (∀ a' W',Below W.heap.size W W' → Ax x a' W' → K a' W') →
      assign.wpIn (Fence.wide.inRound l) (n - 1 - 1) P (Exit.then K (fun _ _ _=>False)) { tmps:=(ps.zip (encs x)).foldl (fun t (p,v)=>t.setIfInBounds p v) a.tmps,defers:=[] } W)
    (hbody:∀ (l:Nat) (pre:List α) (x:α) (a':Act) (W:World),w.heap.size ≤ l → pre ++ [x] <+: L → I pre W → Ax x a' W → body.wpIn (Fence.wide.inRound l) (n - 1 - 1) P (pPost w.heap.size pch I Ix Ip (pre ++ [x]) W) a' W)
    (hdone:∀ (D:Nat) (W:World),w.heap.size ≤ D → bad=false → I L W → W.heap[D]?=some (.deferred (some [])) → Q .normal { a with defers:={ target:=.collected D,args:=#[] } :: a.defers } W)
    (hstop:∀ (D:Nat) (c:Code) (pre:List α) (W:World),w.heap.size ≤ D → pre <+: L → Ix c pre W → W.heap[D]?=some (.deferred (some [])) → WpB P f0 c Q { a with defers:={ target:=.collected D,args:=#[] } :: a.defers } W)
    (hpan:∀ (D:Nat) (W:World),w.heap.size ≤ D → (Ip W ∨ (bad=true∧I L W)) → W.heap[D]?=some (.deferred (some [])) → Q (.panic pch) { a with defers:={ target:=.collected D,args:=#[] } :: a.defers } W) :
    WpB P f0 (Code.rangeFunc g ps assign body) Q a w:=by
  intro b k cs hro hb
  obtain ⟨rec,hrec⟩:∃ rec:LoopState → Option Code → Loop,rec=fun st pe=>{ state:=st,pending:=pe,fn:=f0,tmps:=a.tmps,params:=ps,assign,body,defers:=w.heap.size }:=⟨_,rfl⟩
  obtain ⟨W1,hW1⟩:∃ W1,(w.alloc (.deferred (some []))).alloc (.loop (rec .ready none))=W1:=⟨_,rfl⟩
  have hL1:W1.heap[w.heap.size + 1]?=some (.loop (rec .ready none)):=by
    rw [← hW1]; have:=World.alloc_heap_new (w.alloc (.deferred (some []))) (.loop (rec .ready none)); rwa [World.size_alloc] at this
  have hK1:W1.heap[w.heap.size]?=some (.deferred (some [])):=by
    rw [← hW1]; exact (Below.heap_alloc _ _ _ (by simp)).trans (World.alloc_heap_new w _)
  have hI1:I [] W1:=by rw [← hW1]; exact hI.alloc _ (hI.alloc _ h0)
  have he:(Instr.enterLoop b.fn a.tmps ps assign body b.roundOf).run P w=.ok (w.heap.size + 1,[{ target:=.collected w.heap.size,args:=#[] }]) W1:=by
    rw [hro,hb,← hW1,hrec]; exact run_enterLoop_outer _ _ _ _ _
  have hres:(resolve a.eval (rangeCall g (w.heap.size + 1)) 0).run P W1=.ok { target:=.fn (.func gf) lb,args:=#[.func (.yield (w.heap.size + 1)) #[] #[]] } W1:=by
    simp only [resolve,hg]
    simp [go_sem]
  have hinv:(invoke (.fn (.func gf) lb) #[.func (.yield (w.heap.size + 1)) #[] #[]]).run P W1=.ok (.enter gf (#[.func (.yield (w.heap.size + 1)) #[] #[]] ++ lb)) W1:=by
    simp [invoke,go_sem,eg]
  have henter:=stepR_rangeFunc (P:=P) (b:=b) (a:=a) (k:=k) (cs:=cs) (w:=w) he hres hinv
  have keep0:∀ {A B:World} {l:Nat} {o:Obj},Below A.heap.size A B → A.heap[l]?=some o → B.heap[l]?=some o:=fun hg' hl =>
    (hg'.block _ (Array.getElem?_eq_some_iff.1 hl).1).trans hl
  have hcall:=hseq (w.heap.size + 1)
      (fun pre W=>I pre W∧W.heap[w.heap.size + 1]?=some (.loop (rec .ready none))∧W.heap[w.heap.size]?=some (.deferred (some [])))
      (fun pre W=>∃ c,Ix c pre W∧W.heap[w.heap.size + 1]?=some (.loop (rec .done (some c)))∧W.heap[w.heap.size]?=some (.deferred (some [])))
      (fun W=>Ip W∧W.heap[w.heap.size]?=some (.deferred (some [])))
      W1 (by rw [← hW1]; simp; omega)
      (fun s A B hs hg'=>⟨hI s A B none hs.1 (grown_of_below hg') (fun r e=>by cases e),keep0 hg' hs.2.1,keep0 hg' hs.2.2⟩)
      (fun s A hs=>hbox s A hs.1)
      (fun s A B hs hg'=>by
        obtain ⟨c,hc,hl,hk⟩:=hs
        exact ⟨c,hIx c s A B none hc (grown_of_below hg') (fun r e=>by cases e),keep0 hg' hl,keep0 hg' hk⟩)
      (by
        rintro pre x Wz hpre ⟨hi0,hl0,hk0⟩
        have hy:=run_yield (P:=P) (args:=encs x) hl0 (by rw [hrec]; exact hps x)
        rw [hrec] at hy
        refine ⟨f0,_,assign,body,hy,rnd_of_wp hfd (hassign _ pre x Wz _ hpre hi0 ?_)⟩
        clear hy
        intro a' W hba hax
        have hi:I pre W:=hI pre Wz W none hi0 (grown_of_below hba) (fun r e=>by cases e)
        have hkc:KC w.heap.size Wz W:=fun q o _ hq _=>keep0 hba hq
        have hsz:=hba.size
        have hl:=keep0 hba hl0
        have hk:=keep0 hba hk0
        have hlt:w.heap.size + 1 < W.heap.size:=(Array.getElem?_eq_some_iff.1 hl).1
        refine ⟨_,run_beginRound hl (by rw [hrec]),?_⟩
        have hl2:(W.putObj (w.heap.size + 1) (.loop { rec .ready none with state:=.busy })).heap[w.heap.size + 1]?=some (.loop { rec .ready none with state:=.busy }):=World.putObj_heap_same hlt
        have hk2:(W.putObj (w.heap.size + 1) (.loop { rec .ready none with state:=.busy })).heap[w.heap.size]?=some (.deferred (some [])):=(World.putObj_heap_other (by omega)).trans hk
        refine wpIn_mono (hbody _ pre x a' _ (by omega) hpre (hI.putObj _ hi (by omega) hl rfl) ((hAx x a').putObj (s:=()) _ hax (by omega) hl rfl)) ?_
        have fin:∀ (jump:Option Code) (W3:World),KA w.heap.size (W.putObj (w.heap.size + 1) (.loop { rec .ready none with state:=.busy })) W3 →
            (Instr.endRound (w.heap.size + 1) jump).run P W3=.ok (.bool jump.isNone) (W3.putObj (w.heap.size + 1) (.loop (rec (if jump.isNone then .ready else .done) jump))) ∧
            W3.heap[w.heap.size + 1]?=some (.loop { rec .ready none with state:=.busy }) ∧
            (W3.putObj (w.heap.size + 1) (.loop (rec (if jump.isNone then .ready else .done) jump))).heap[w.heap.size + 1]?=some (.loop (rec (if jump.isNone then .ready else .done) jump)) ∧
            (W3.putObj (w.heap.size + 1) (.loop (rec (if jump.isNone then .ready else .done) jump))).heap[w.heap.size]?=some (.deferred (some [])):=fun jump W3 hk3=>by
          have hl3:=hk3.same _ _ (by omega) hl2
          have:=run_endRound (P:=P) jump hl3
          rw [hrec] at this ⊢
          exact ⟨this,by rw [hrec] at hl3; exact hl3,World.putObj_heap_same (Array.getElem?_eq_some_iff.1 hl3).1,(World.putObj_heap_other (by omega)).trans (hk3.same _ _ (Nat.le_refl _) hk2)⟩
        rintro e a3 W3 hp
        cases e with
        | normal =>
          obtain ⟨hk3,hi3⟩:=hp
          obtain ⟨hr,hl3,hl4,hk4⟩:=fin none W3 hk3
          refine ⟨_,_,hr,.inl ⟨rfl,⟨hI.putObj _ hi3 (by omega) hl3 rfl,hl4,hk4⟩,?_,?_⟩⟩
          · intro q o hq ho hc
            exact KC.putObj hl3 rfl q o hq (hk3.same q o hq (KC.putObj hl rfl q o hq (hkc q o hq ho hc) hc)) hc
          · have:=hk3.size; simp at this ⊢; omega
        | ret =>
          obtain ⟨hk3,hi3⟩:=hp
          obtain ⟨hr,hl3,hl4,hk4⟩:=fin (some .ret) W3 hk3
          exact ⟨_,_,hr,.inr (.inl ⟨rfl,.ret,(hIx _).putObj _ hi3 (by omega) hl3 rfl,hl4,hk4⟩)⟩
        | exit id =>
          obtain ⟨hk3,hi3⟩:=hp
          obtain ⟨hr,hl3,hl4,hk4⟩:=fin (some (.exit id)) W3 hk3
          exact ⟨_,_,hr,.inr (.inl ⟨rfl,.exit id,(hIx _).putObj _ hi3 (by omega) hl3 rfl,hl4,hk4⟩)⟩
        | goto t =>
          obtain ⟨hk3,hi3⟩:=hp
          obtain ⟨hr,hl3,hl4,hk4⟩:=fin (some (.goto t)) W3 hk3
          exact ⟨_,_,hr,.inr (.inl ⟨rfl,.goto t,(hIx _).putObj _ hi3 (by omega) hl3 rfl,hl4,hk4⟩)⟩
        | panic ch =>
          obtain ⟨hd,rfl,hk3,hi3⟩:=hp
          exact ⟨hd,.inr (.inr ⟨rfl,hi3,hk3.same _ _ (Nat.le_refl _) hk2⟩)⟩
        | outgrown=>exact hp.elim)
      ⟨hI1,hL1,hK1⟩
  obtain ⟨e,w3,fr,hR,hsteps,hfn,hleave⟩:=hcall.2 (b.atR { a with defers:=[{ target:=.collected w.heap.size,args:=#[] }] ++ a.defers } (.inRangeFunc (w.heap.size + 1) :: k) :: cs) (room_wide _)
  have sback:∀ (v:Value) (jump:Option Code) (w4:World),e=.returned v → (Instr.endLoop (w.heap.size + 1)).run P w3=.ok jump w4 →
      StepsIn (Machine.fenced P Fence.wide) P (lone (b.atR a (.code (.rangeFunc g ps assign body) :: k)) cs w) (lone (b.atR { a with defers:=[{ target:=.collected w.heap.size,args:=#[] }] ++ a.defers } ((jump.map Item.code).toList ++ k)) cs w4):=by
    rintro v jump w4 rfl hend
    refine .head (fenced_wide _ _) henter (StepsIn.trans hsteps (.head (fenced_wide _ _) ?_ (.one (fenced_wide _ _) (stepR_endRangeFunc hend))))
    rw [← finish_atR_inRangeFunc (w.heap.size + 1) v]; exact step_leave_returned hleave
  rcases hR with ⟨⟨v,rfl⟩,hbad,hi,hl,hk⟩ | ⟨⟨v,rfl⟩,pre,hpre,c,hi,hl,hk⟩ | ⟨rfl,hp⟩
  · have hend:(Instr.endLoop (w.heap.size + 1)).run P w3=.ok none (w3.putObj (w.heap.size + 1) (.loop { rec .ready none with state:=.exhausted })):=by have:=run_endLoop (P:=P) hl (by rw [hrec]; simp); rw [hrec] at this ⊢; exact this
    exact ⟨.normal,_,_,hdone w.heap.size _ (Nat.le_refl _) hbad (hI.putObj _ hi (by omega) hl rfl) ((World.putObj_heap_other (by omega)).trans hk),sback v none _ rfl hend⟩
  · have hend:(Instr.endLoop (w.heap.size + 1)).run P w3=.ok (some c) (w3.putObj (w.heap.size + 1) (.loop { rec .done (some c) with state:=.exhausted })):=by have:=run_endLoop (P:=P) hl (by rw [hrec]; simp); rw [hrec] at this ⊢; exact this
    obtain ⟨e',a'',w5,hq,harr⟩:=hstop w.heap.size c pre _ (Nat.le_refl _) hpre ((hIx c).putObj _ hi (by omega) hl rfl) ((World.putObj_heap_other (by omega)).trans hk) b k cs hro hb
    exact ⟨e',a'',w5,hq,.of_steps (sback v (some c) _ rfl hend) harr⟩
  · refine ⟨.panic pch,{ a with defers:=[{ target:=.collected w.heap.size,args:=#[] }] ++ a.defers },w3,?_,.inRangeFunc (w.heap.size + 1) :: k,.head (fenced_wide _ _) henter (StepsIn.trans hsteps (.one (fenced_wide _ _) ?_))⟩
    · rcases hp with ⟨hi,hk⟩ | ⟨hbad,hi,_,hk⟩
      · exact hpan w.heap.size w3 (Nat.le_refl _) (.inl hi) hk
      · exact hpan w.heap.size w3 (Nat.le_refl _) (.inr ⟨hbad,hi⟩) hk
    · rw [← Frame.raise_atR]; exact step_leave_panicked hleave
end
end Go.Proofs.YtiefeeoellagnaaGreatDoor.S6
namespace Go.Proofs.YtiefeeoellagnaaGreatDoor.S6
open Go.RowKit Go.Shelf
set_option linter.unusedVariables false
attribute [local go_sem] Oper.semAt_some
theorem fwd_any (b:ByteArray) (c:Int) (w:World):Calls Tryz.prog 258 #[.agg #[.string b,.int .i64 c]] w fun e w' =>
    e=.returned (.func (.func 320) #[] #[.pointer (some ⟨w.heap.size,0,none⟩)])∧w'=w.alloc (.cells #[.string b,.int .i64 c] 349):=by
  have hmf:∀ (fn:Fn) (first cap:Array Value) (w:World),(Instr.makeFunc fn first cap).run Tryz.prog w=.ok (.func fn first cap) w:=fun _ _ _ _=>rfl
  go_enter Tryz.func258,Tryz.ntmps258
  go_wp2
  go_ret
  exact ⟨rfl,rfl⟩
def encs (e:LM.Ent):Array Value:=#[.int .i64 (e.place:Int),encE e.it e.begin e.span]
structure Box (b:ByteArray) (c:Int) (bx:Nat) (W:World):Prop where
  row:W.heap[bx]?=some (.cells #[.string b,.int .i64 c] 349)
  wid:Wid W
theorem row2 {w:World} {g T:Nat} {v0 v1:Value} (h:w.heap[g]?=some (.cells #[v0,v1] T)) :
    w.cell? ⟨g,0,none⟩=some v0∧w.cell? ⟨g,1,none⟩=some v1∧∀ j,w.frozen? ⟨g,j,none⟩=false:=by
  refine ⟨?_,?_,fun j=>frozen_of_row _ _ _ _ _ h⟩ <;> rw [cell_of_row _ _ _ _ _ _ h] <;> rfl
set_option maxHeartbeats 2000000 in
set_option maxRecDepth 100000 in
theorem fwd_seq (n:Nat) (b:ByteArray) (c:Int) (bx k B0:Nat) (hs:b.size ≤ 4294967296) (hk:b.size < k) :
    SeqP n Tryz.prog 320 #[.pointer (some ⟨bx,0,none⟩)] encs (LM.parse k 0 0 b.data.toList).1 (LM.parse k 0 0 b.data.toList).2 pch (Box b c bx) B0:=by
  intro l J Jx Jp W hBW hJ hbox hJx hY h0
  refine callsIn_of_wp Tryz.func320 rfl trivial ?_ rfl
  simp only [Tryz.ntmps320,List.size_toArray,List.length_cons,List.length_nil,Nat.reduceAdd,Nat.reduceSub,Array.replicate_succ,Array.replicate_zero,List.push_toArray,List.append_toArray,List.nil_append,List.cons_append]
  gi_wp2
  gi_loopw [3,4] (fun pl at_ wr=>∃ (pre:List LM.Ent) (kk p a:Nat),pl=.int .i64 (p:Int)∧at_=.int .i64 (a:Int)∧(LM.parse k 0 0 b.data.toList).1=pre ++ (LM.parse kk p a (b.data.toList.drop a)).1∧(LM.parse k 0 0 b.data.toList).2=(LM.parse kk p a (b.data.toList.drop a)).2∧b.size - a < kk∧p ≤ a∧a ≤ b.size + 5∧J pre wr∧B0 ≤ wr.heap.size)
    (fun _ at_ _=>b.size - (intOf at_).toNat)
  case atStart=>exact ⟨[],k,0,0,rfl,rfl,by simp,by simp,by omega,by omega,by omega,h0,hBW⟩
  case round =>
    obtain ⟨pre,kk,p,a,rfl,rfl,hL,hbad,hkk,hpa,ha5,hJs,hB0⟩:=hrel
    have hbx:=hbox _ _ hJs
    obtain ⟨e0,e1,ef⟩:=row2 hbx.row
    obtain ⟨kk,rfl⟩:∃ j,kk=j + 1:=⟨kk - 1,by omega⟩
    by_cases hlt:a < b.size
    · have hne:b.data.toList.drop a ≠ []:=by
        intro h; have:=congrArg List.length h; rw [List.length_drop,list_len] at this; simp at this; omega
      obtain ⟨S,hS⟩:∃ S,b.extract a b.size=S:=⟨_,rfl⟩
      have hSl:S.data.toList=b.data.toList.drop a:=by rw [← hS,ext_any,List.take_of_length_le (by rw [List.length_drop,list_len]; omega)]
      have hSz:S.size=b.size - a:=by rw [← hS,ext_size _ _ _ (Nat.le_refl _)]
      have hE:=fun W' hW'=>rdI_any S (by omega) (by omega) W' hW'
      rw [hSl] at hE
      clear hSl
      cases hr:LM.rdItem (b.data.toList.drop a) with
      | none =>
        rw [LM.parse_none kk p a hne hr] at hL hbad
        rw [hr] at hE
        have HE:Hid (∀ W',Wid W' → Calls Tryz.prog 321 #[.string S] W' fun e w'=>e=.panicked pch∧Below W'.heap.size W' w'):=hE
        have HX:Hid (Box b c bx wr):=hbx
        have HJ:Hid _:=hJs
        have HLL:Hid _:=hL
        have HBB:Hid _:=hbad
        clear hE hbx hJs hY hL hbad
        gi_wp2_with fail
        refine ⟨trivial,fun h=>(by cases h),(callsIn_wide.2 (HE.out _ HX.out.wid)).mono ?_⟩
        rintro e w1 ⟨rfl,hb1⟩
        refine ⟨rfl,Or.inr (Or.inr ⟨rfl,Or.inr ⟨HBB.out,?_⟩⟩)⟩
        have hq:=hJ _ _ _ HJ.out hb1
        rw [HLL.out]; simpa using hq
      | some x =>
        obtain ⟨⟨t,m,q⟩,sp⟩:=x
        rw [LM.parse_some kk p a hr] at hL hbad
        simp only at hL hbad
        obtain ⟨hsp1,hsp2⟩:=LM.rd_span hr
        rw [List.length_drop,list_len] at hsp2
        obtain ⟨T,hTT⟩:∃ T,strB t=T:=⟨_,rfl⟩
        rw [hr] at hE
        have HE:Hid (∀ W',Wid W' → Calls Tryz.prog 321 #[.string S] W' fun e w'=>e=.returned (.tuple #[.agg #[.string T,.int .i64 m,.bool q],.int .i64 (sp:Int)])∧Below W'.heap.size W' w'):=fun W' hW'=>by
          rw [← hTT]; exact hE W' hW'
        have HX:Hid (Box b c bx wr):=hbx
        have HJ:Hid _:=hJs
        have HLL:Hid _:=hL
        have HBB:Hid _:=hbad
        have HP:Hid (pre ++ [(⟨p,⟨t,m,q⟩,a,sp⟩:LM.Ent)] <+: (LM.parse k 0 0 b.data.toList).1):=⟨_,by rw [HLL.out,List.append_assoc]; rfl⟩
        clear hE hbx hJs hL hbad
        gi_wp2_with fail
        refine ⟨trivial,fun h=>(by cases h),(callsIn_wide.2 (HE.out _ HX.out.wid)).mono ?_⟩
        rintro e w1 ⟨rfl,hb1⟩
        have HB2:Hid (Below wr.heap.size wr (w1.alloc (.cells #[.string T,.int .i64 m,.bool q] 385))):=hb1.alloc hb1.size _
        obtain ⟨fn,tmps,assign,body,hy,hR⟩:=hY pre ⟨p,⟨t,m,q⟩,a,sp⟩ _ HP.out (hJ _ _ _ HJ.out HB2.out)
        simp only [encs,encE,hTT] at hy
        have hsz1:=hb1.size
        have hBw1:B0 ≤ w1.heap.size:=by omega
        clear hb1
        gi_wp2
        refine ⟨fun h=>(by cases h),hR.mono ?_⟩
        rintro e W3 (⟨rfl,hJ3,hkc,hz3⟩ | ⟨rfl,hJx3⟩ | ⟨rfl,hJp3⟩)
        · have HBS:Hid (∀ W',Calls Tryz.prog 322 #[.int .i64 (sp:Int)] W' fun e w'=>e=.returned (.int .i64 (LM.bsz sp:Nat))∧w'=W'):=fun W'=>bsz_any sp (by omega) (by omega) W'
          have hb5:=LM.bsz_le sp
          have hb1':=LM.bsz_pos sp
          have hw1:IntKind.i64.wrap ((sp:Int) + (LM.bsz sp:Nat))=((sp + LM.bsz sp:Nat):Int):=by rw [IntKind.wrap_i64]; omega
          have hw2:IntKind.i64.wrap ((a:Int) + ((sp + LM.bsz sp:Nat):Int))=((a + (sp + LM.bsz sp):Nat):Int):=by rw [IntKind.wrap_i64]; omega
          have HJ3:Hid _:=hJ3
          clear hJ3 hR hy hY
          gi_wp2
          refine ⟨trivial,fun h=>(by cases h),(callsIn_wide.2 (HBS.out _)).mono ?_⟩
          rintro e w4 ⟨rfl,hw4⟩
          have HW4:Hid (w4=W3):=hw4
          clear hw4
          gi_wp2
          go_roundw
          case rel =>
            refine ⟨pre ++ [⟨p,⟨t,m,q⟩,a,sp⟩],kk,p + 1,a + (sp + LM.bsz sp),rfl,rfl,?_,?_,by omega,by omega,by omega,by rw [HW4.out]; exact HJ3.out,?_⟩
            · rw [HLL.out,List.append_assoc,List.drop_drop]; rfl
            · rw [HBB.out,List.drop_drop]; rfl
            · rw [HW4.out]; have:=HB2.out.size; simp at hz3; omega
          case measure=>simp [intOf]; omega
        · gi_wp2
          refine bodyPost_ret (results_none rfl _ _ _) rfl ?_
          exact Or.inr (Or.inl ⟨⟨_,rfl⟩,_,HP.out,hJx3⟩)
        · exact ⟨rfl,Or.inr (Or.inr ⟨rfl,Or.inl hJp3⟩)⟩
    · have hd:b.data.toList.drop a=[]:=List.drop_eq_nil_of_le (by rw [list_len]; omega)
      rw [hd,LM.parse_nil] at hL hbad
      have HLL:Hid _:=hL
      have HBB:Hid _:=hbad
      clear hL hbad hY
      gi_wp2
      go_end0
      exact Or.inl ⟨⟨_,rfl⟩,HBB.out,by rw [HLL.out]; simpa using hJs⟩
end Go.Proofs.YtiefeeoellagnaaGreatDoor.S6
set_option linter.unusedVariables false
namespace Go.Proofs.YtiefeeoellagnaaGreatDoor.S6.LM
open Go.Proofs.Vi
/-! what 'parse' hands over. -/
theorem rd_kind {s:List UInt8} {it:Item} {n:Nat} (e:rdItem s=some (it,n)):(it.isN=true∧it.txt=[]∧I64 it.num) ∨ (it.isN=false∧it.num=0∧it.txt.length ≤ s.length):=by
  cases s with
  | nil=>cases e
  | cons b t =>
    rw [rdItem_cons] at e
    have ht:∀ {h L},txtAt (b :: t) h L=some (it,n) → (it.isN=true∧it.txt=[]∧I64 it.num) ∨ (it.isN=false∧it.num=0∧it.txt.length ≤ (b :: t).length):=fun e=>by
      obtain ⟨h1,h2,h3⟩:=txtAt_some e
      subst h2
      refine Or.inr ⟨rfl,rfl,?_⟩
      show ((List.drop _ (b :: t)).take _).length ≤ _
      rw [List.length_take,List.length_drop]; omega
    have hm:∀ {k},(∀ m:Int,fits k m → I64 m) → numAt (b :: t) k=some (it,n) → (it.isN=true∧it.txt=[]∧I64 it.num) ∨ (it.isN=false∧it.num=0∧it.txt.length ≤ (b :: t).length):=fun hf e=>by
      obtain ⟨g1,g2,g3,g4,g5⟩:=num_inv b t _ it n e
      exact Or.inl ⟨by rw [g2]; rfl,by rw [g2]; rfl,hf _ g3⟩
    have hs:∀ {x:Int} {k:Nat},I64 x → some (numI x,k)=some (it,n) → (it.isN=true∧it.txt=[]∧I64 it.num) ∨ (it.isN=false∧it.num=0∧it.txt.length ≤ (b :: t).length):=fun h1 e=>by
      have:=congrArg Prod.fst (Option.some.inj e); simp only at this; subst this
      exact Or.inl ⟨rfl,rfl,h1⟩
    have hb:=b.toNat_lt
    unfold rdF at e
    split at e
    · exact hs (by unfold I64; omega) e
    split at e
    · exact ht e
    split at e
    · split at e
      · refine hs ?_ e
        unfold s13 I64; split <;> omega
      · cases e
    split at e
    · split at e
      · exact ht e
      · cases e
    split at e
    · split at e
      · exact ht e
      · cases e
    split at e
    · exact hm (fun m h=>by unfold fits at h; unfold I64; omega) e
    split at e
    · exact hm (fun m h=>by unfold fits at h; unfold I64; omega) e
    split at e
    · exact hm (fun m h=>by unfold fits at h; unfold I64; omega) e
    split at e
    · exact hm (fun m h=>by unfold fits at h; unfold I64; omega) e
    · cases e
theorem parse_mem (b:List UInt8):∀ (k p a:Nat) (s:List UInt8),s=b.drop a → ∀ e ∈ (parse k p a s).1,e.begin < b.length∧rdItem (b.drop e.begin)=some (e.it,e.span)
  | 0,p,a,s,_,e,he=>by simp [parse] at he
  | k + 1,p,a,s,hs,e,he=>by
    by_cases hn:s=[]
    · subst hn; rw [parse_nil] at he; simp at he
    · cases hr:rdItem s with
      | none=>rw [parse_none k p a hn hr] at he; simp at he
      | some x =>
        obtain ⟨it,n⟩:=x
        rw [parse_some k p a hr] at he
        rcases List.mem_cons.1 he with rfl | he
        · refine ⟨?_,by rw [← hs]; exact hr⟩
          rcases Nat.lt_or_ge a b.length with h | h
          · exact h
          · exact absurd (by rw [hs]; exact List.drop_eq_nil_of_le h) hn
        · exact parse_mem b k (p + 1) (a + esp n) (s.drop (esp n)) (by rw [hs,List.drop_drop]) e he
theorem parse_place:∀ (k p a:Nat) (s:List UInt8) (pre:List Ent) (x:Ent),pre ++ [x] <+: (parse k p a s).1 → x.place=p + pre.length
  | 0,p,a,s,pre,x,h=>by simp [parse] at h
  | k + 1,p,a,s,pre,x,h=>by
    by_cases hn:s=[]
    · subst hn; rw [parse_nil] at h; simp at h
    · cases hr:rdItem s with
      | none=>rw [parse_none k p a hn hr] at h; simp at h
      | some y =>
        obtain ⟨it,n⟩:=y
        rw [parse_some k p a hr] at h
        cases pre with
        | nil =>
          simp only [List.nil_append] at h
          have:=(List.cons_prefix_cons.1 h).1
          subst this; simp
        | cons z pre =>
          simp only [List.cons_append] at h
          have:=parse_place k (p + 1) _ _ pre x (List.cons_prefix_cons.1 h).2
          rw [this,List.length_cons]; omega
theorem pre_mem {α:Type} {pre L:List α} {x:α} (h:pre ++ [x] <+: L):x ∈ L:=h.subset (by simp)
theorem pre_len {α:Type} {pre L:List α} {x:α} (h:pre ++ [x] <+: L):pre.length < L.length:=by have:=h.length_le; simp at this; omega
theorem parse_len (k p a:Nat) (s:List UInt8):(parse k p a s).1.length ≤ k:=by
  induction k generalizing p a s with
  | zero=>simp [parse]
  | succ k ih =>
    by_cases hn:s=[]
    · subst hn; rw [parse_nil]; simp
    · cases hr:rdItem s with
      | none=>rw [parse_none k p a hn hr]; simp
      | some x =>
        obtain ⟨it,n⟩:=x
        rw [parse_some k p a hr]
        have:=ih (p + 1) (a + esp n) (s.drop (esp n))
        simp only [List.length_cons]; omega
/-! entries of items: where each begins. -/
theorem ents_get:∀ (l:List Item) (p a i:Nat) (h:i < l.length),(entsFrom p a l)[i]?=some ⟨p + i,l[i],a + bsum (l.take i),dsize l[i]⟩
  | x :: l,p,a,0,_=>by simp [entsFrom,bsum]
  | x :: l,p,a,i + 1,h=>by
    simp only [entsFrom,List.getElem?_cons_succ,List.getElem_cons_succ,List.take_succ_cons,bsum_cons]
    rw [ents_get l (p + 1) (a + esz x) i (by simpa using h)]
    rw [show p + 1 + i=p + (i + 1) by omega,show a + esz x + bsum (l.take i)=a + (esz x + bsum (l.take i)) by omega]
theorem bsum_take_le (l:List Item) (i:Nat):bsum (l.take i) ≤ bsum l:=by
  conv=>rhs; rw [← List.take_append_drop i l,bsum_app]
  omega
theorem body_take (l:List Item) (i:Nat):(bodyOf l).take (bsum (l.take i))=bodyOf (l.take i):=by
  have e:bodyOf l=bodyOf (l.take i) ++ bodyOf (l.drop i):=by rw [← bodyOf_app,List.take_append_drop]
  rw [e]; exact List.take_left' (bodyOf_len _)
theorem body_drop (l:List Item) (i:Nat):(bodyOf l).drop (bsum (l.take i))=bodyOf (l.drop i):=by
  have e:bodyOf l=bodyOf (l.take i) ++ bodyOf (l.drop i):=by rw [← bodyOf_app,List.take_append_drop]
  rw [e]; exact List.drop_left' (bodyOf_len _)
end Go.Proofs.YtiefeeoellagnaaGreatDoor.S6.LM
namespace Go.Proofs.YtiefeeoellagnaaGreatDoor.S6
open Go.RowKit
set_option linter.unusedVariables false
theorem size_any (it:LM.Item) (L:Nat) (hk:(it.isN=true∧it.txt=[]∧LM.I64 it.num) ∨ (it.isN=false∧it.num=0∧it.txt.length ≤ L)) (hL:L ≤ 4294967296) (w:World) (hw:Wid w) :
    Calls Tryz.prog 342 #[.agg #[.string (strB it.txt),.int .i64 it.num,.bool it.isN]] w fun e w'=>e=.returned (.int .i64 (LM.dsize it:Nat))∧Below w.heap.size w w':=by
  obtain ⟨t,n,q⟩:=it
  rcases hk with ⟨h1,h2,h3⟩ | ⟨h1,h2,h3⟩
  · simp only at h1 h2 h3; subst h1
    exact size_num n _ h3 w hw
  · simp only at h1 h2 h3; subst h1
    have:=size_txt n (strB t) (by rw [strB_size]; omega) w
    rw [strB_size] at this
    exact this
theorem ends {X:Prop} (w:World) (h:X) (_:wpAny Tryz.prog .any #[] (fun _ _ _=>True) 0 #[] { tmps:=#[],defers:=[] } w):X:=h
def oneP (b:ByteArray) (w:World) (t:List UInt8) (m:Int) (q:Bool) (a n:Nat) (x:Ending) (w':World):Prop:=
  ((x=.returned (.tuple #[])∧LM.okEnt b.data.toList ⟨0,⟨t,m,q⟩,a,n⟩) ∨ (x=.panicked pch∧¬ LM.okEnt b.data.toList ⟨0,⟨t,m,q⟩,a,n⟩))∧Below w.heap.size w w'
theorem oneP_no {b:ByteArray} {w w':World} {t:List UInt8} {m:Int} {q:Bool} {a n:Nat} (h:¬ LM.okEnt b.data.toList ⟨0,⟨t,m,q⟩,a,n⟩) (hb:Below w.heap.size w w'):oneP b w t m q a n (.panicked pch) w':=⟨Or.inr ⟨rfl,h⟩,hb⟩
set_option maxHeartbeats 2000000 in
set_option maxRecDepth 100000 in
theorem one_bad1 (b:ByteArray) (c:Int) (t:List UInt8) (m:Int) (q:Bool) (a n:Nat) (D nz:Int) (hs:b.size ≤ 1073741824) (ha:a < b.size) (ht:t.length ≤ 1073741824)
    (hS:∀ W,Wid W → Calls Tryz.prog 342 #[.agg #[.string (strB t),.int .i64 m,.bool q]] W fun e w'=>e=.returned (.int .i64 D)∧Below W.heap.size W w')
    (hno:¬ LM.okEnt b.data.toList ⟨0,⟨t,m,q⟩,a,n⟩) (hD:¬ (D=nz∧t.length ≤ 524288)) (w:World) (hw:Lay w) :
    Calls Tryz.prog 319 #[.agg #[.string b,.int .i64 c],.agg #[.string (strB t),.int .i64 m,.bool q,.int .i64 (a:Int),.int .i64 nz]] w (oneP b w t m q a n):=by
  have HS:Hid _:=hS
  have HNO:Hid _:=hno
  have hTs:(strB t).size=t.length:=strB_size t
  generalize strB t=T at *
  obtain ⟨W1,hW1⟩:∃ W1,W1=(w.alloc (.cells #[.string b,.int .i64 c] 349)).alloc (.cells #[.string T,.int .i64 m,.bool q,.int .i64 (a:Int),.int .i64 nz] 387):=⟨_,rfl⟩
  have HB1:Hid (Below w.heap.size w W1):=by rw [hW1]; exact ((Below.refl _ w).alloc (Nat.le_refl _) _).alloc (by simp) _
  have HG:Hid (W1.heap[w.heap.size + 1]?=some (.cells #[.string T,.int .i64 m,.bool q,.int .i64 (a:Int),.int .i64 nz] 387)):=by
    rw [hW1]; have:=one_alloc (w.alloc (.cells #[.string b,.int .i64 c] 349)) (.cells #[.string T,.int .i64 m,.bool q,.int .i64 (a:Int),.int .i64 nz] 387)
    rwa [World.size_alloc] at this
  obtain ⟨d0,d1,d2,d3,d4,df⟩:=row5 HG.out
  have HLW:Hid (Wid W1.drew):=(hw.wid.on HB1.out).on (Below.drew (Below.refl _ _))
  have hlt:=row_lt HG.out
  clear hw hS hno
  by_cases h1:D=nz
  · have h2:¬ t.length ≤ 524288:=fun h=>hD ⟨h1,h⟩
    have hdn:(D == nz)=true:=by simpa using h1
    clear h1
    have hde:decide ((t.length:Int) ≤ 524288)=false:=dec_f (by omega)
    go_enter Tryz.func319,Tryz.ntmps319
    go_wp2_with fail
    rw [← hW1]
    clear hW1
    first
    | go_region_with (first
      | (go_at_call 342; refine (show Calls _ _ _ _ _ from HS.out _ HLW.out).mono ?_; rintro e w2 ⟨rfl,hb2⟩; obtain ⟨k0,k1,k2,k3,k4,kf⟩:=row5 (keep_row (w:=W1.drew) HG.out hb2); have hb3:=bel_to ((below_dn HB1.out 1)) hb2 (Nat.le_refl _); clear hb2)
      | (go_at_call 317; refine (must_bad _).mono ?_; rintro e w3 ⟨rfl,rfl⟩; refine ends w (show bodyPost _ _ _ (Exit.panic pch) _ _ from ⟨rfl,oneP_no HNO.out hb3⟩) ?_))
    | fail
    all_goals trivial
  · have hdn:(D == nz)=false:=by simpa using h1
    go_enter Tryz.func319,Tryz.ntmps319
    go_wp2_with fail
    rw [← hW1]
    clear hW1
    first
    | go_region_with (first
      | (go_at_call 342; refine (show Calls _ _ _ _ _ from HS.out _ HLW.out).mono ?_; rintro e w2 ⟨rfl,hb2⟩; obtain ⟨k0,k1,k2,k3,k4,kf⟩:=row5 (keep_row (w:=W1.drew) HG.out hb2); have hb3:=bel_to ((below_dn HB1.out 1)) hb2 (Nat.le_refl _); clear hb2)
      | (go_at_call 317; refine (must_bad _).mono ?_; rintro e w3 ⟨rfl,rfl⟩; refine ends w (show bodyPost _ _ _ (Exit.panic pch) _ _ from ⟨rfl,oneP_no HNO.out hb3⟩) ?_))
    | fail
    all_goals trivial
end Go.Proofs.YtiefeeoellagnaaGreatDoor.S6
namespace Go.Proofs.YtiefeeoellagnaaGreatDoor.S6
open Go.RowKit
set_option linter.unusedVariables false
theorem prow2 {w:World} {g T:Nat} {v0 v1:Value} (h:w.heap[g]?=some (.cells #[v0,v1] T)) :
    w.cell? ⟨g,0,none⟩=some v0∧w.cell? ⟨g,1,none⟩=some v1∧∀ j,w.frozen? ⟨g,j,none⟩=false:=by
  refine ⟨?_,?_,fun j=>frozen_of_row _ _ _ _ _ h⟩ <;> rw [cell_of_row _ _ _ _ _ _ h] <;> rfl
theorem conv_to (Z:ByteArray) (w:World):∃ cap W',(convert 9 218 (.string Z)).run Tryz.prog w=.ok (.slice (some ⟨w.heap.size,0,none⟩) Z.size cap) W'∧Below w.heap.size w W'∧W'.heap.size=w.heap.size + 1 ∧
    ∀ j (h:j < Z.size),W'.cell? ⟨w.heap.size,j,none⟩=some (.int .u8 (Z[j].toNat:Int)):=by
  refine ⟨_,_,run_bytes_of_string w 9 218 5 Z Tryz.underlying9 Tryz.underlying218 Tryz.underlying5,?_,?_,?_⟩
  · exact (below_dn (Below.refl _ w) 1).alloc (Nat.le_refl _) _
  · show (World.alloc w.drew _).heap.size=_; rw [World.size_alloc]; rfl
  · intro j h
    have h2:(World.alloc w.drew (.cells (bytesRow Z (grownCap w Z.size 0 5)) 5 ((bytesRow Z (grownCap w Z.size 0 5)).size,(bytesRow Z (grownCap w Z.size 0 5)).size + 1))).heap[w.heap.size]?=_:=one_alloc w.drew _
    simp only [World.cell?,h2]
    rw [if_neg (by simp)]; exact bytesRow_at Z _ j h
set_option maxHeartbeats 2000000 in
set_option maxRecDepth 100000 in
theorem one_ok (b:ByteArray) (c:Int) (t:List UInt8) (m:Int) (q:Bool) (a n:Nat) (nz:Int) (hnz:nz=(n:Int)) (hs:b.size ≤ 1073741824) (ha:a + n ≤ b.size) (hn1:1 ≤ n) (hn2:n ≤ 524293) (ht:t.length ≤ 524288)
    (hS:∀ W,Wid W → Calls Tryz.prog 342 #[.agg #[.string (strB t),.int .i64 m,.bool q]] W fun e w'=>e=.returned (.int .i64 nz)∧Below W.heap.size W w')
    (hok:LM.okEnt b.data.toList ⟨0,⟨t,m,q⟩,a,n⟩ ↔ (Vi.numberOf t=none∧(b.data.toList.drop (a + n)).take (LM.bsz n)=LM.back n)) (w:World) (hw:Lay w) :
    Calls Tryz.prog 319 #[.agg #[.string b,.int .i64 c],.agg #[.string (strB t),.int .i64 m,.bool q,.int .i64 (a:Int),.int .i64 nz]] w (oneP b w t m q a n):=by
  have HS:Hid _:=hS
  have HOK:Hid _:=hok
  have HNZ:Hid _:=hnz
  have hTs:(strB t).size=t.length:=strB_size t
  have hTl:(strB t).data.toList=t:=strB_list t
  generalize strB t=T at *
  obtain ⟨W1,hW1⟩:∃ W1,W1=(w.alloc (.cells #[.string b,.int .i64 c] 349)).alloc (.cells #[.string T,.int .i64 m,.bool q,.int .i64 (a:Int),.int .i64 nz] 387):=⟨_,rfl⟩
  have HB1:Hid (Below w.heap.size w W1):=by rw [hW1]; exact ((Below.refl _ w).alloc (Nat.le_refl _) _).alloc (by simp) _
  have HG:Hid (W1.heap[w.heap.size + 1]?=some (.cells #[.string T,.int .i64 m,.bool q,.int .i64 (a:Int),.int .i64 nz] 387)):=by
    rw [hW1]; have:=one_alloc (w.alloc (.cells #[.string b,.int .i64 c] 349)) (.cells #[.string T,.int .i64 m,.bool q,.int .i64 (a:Int),.int .i64 nz] 387)
    rwa [World.size_alloc] at this
  have HGP:Hid (W1.heap[w.heap.size]?=some (.cells #[.string b,.int .i64 c] 349)):=by
    rw [hW1]; exact keep_row (one_alloc w _) ((Below.refl _ _).alloc (Nat.le_refl _) _)
  obtain ⟨d0,d1,d2,d3,d4,df⟩:=row5 HG.out
  have HL1:Hid (Lay W1):=hw.on HB1.out
  have HLW:Hid (Wid W1.drew):=HL1.out.wid.on (Below.drew (Below.refl _ _))
  have hlt:=row_lt HG.out
  have hdn:(nz == nz)=true:=by simp
  have hde:decide ((t.length:Int) ≤ 524288)=true:=dec_t (by omega)
  have HTS:Hid _:=hTs
  have HTL:Hid _:=hTl
  clear hw hS hok hnz hTl
  go_enter Tryz.func319,Tryz.ntmps319
  go_wp2_with fail
  rw [← hW1]
  clear hW1
  go_cut [] from 9 to 22 (fun wx=>Below W1.heap.size W1 wx)
  case first =>
    first
    | go_region_with (first
      | (go_at_call 342; refine (show Calls _ _ _ _ _ from HS.out _ HLW.out).mono ?_; rintro e w2 ⟨rfl,hb2⟩; obtain ⟨k0,k1,k2,k3,k4,kf⟩:=row5 (keep_row (w:=W1.drew) HG.out hb2); have hb3:=bel_to (below_dn (Below.refl _ W1) 1) hb2 (Nat.le_refl _); clear hb2)
      | (go_at_call 317; refine (must_ok _).mono ?_; rintro e w3 ⟨rfl,rfl⟩))
    | fail
    all_goals (go_wp2_with fail; go_meet; exact hb3)
  case rest =>
  have hzz:=HNZ.out
  clear HNZ
  subst hzz
  have HC:Hid (Below W1.heap.size W1 wc):=hcut
  have HBC:Hid (Below w.heap.size w wc):=bel_to HB1.out hcut (Nat.le_refl _)
  have HGC:Hid _:=keep_row HG.out hcut
  have HGPC:Hid _:=keep_row HGP.out hcut
  have HLC:Hid (Lay wc):=HL1.out.on hcut
  obtain ⟨e0,e1,e2,e3,e4,ef⟩:=row5 HGC.out
  clear hcut d0 d1 d2 d3 d4 df
  go_wp2_with fail
  refine (numOf_any T (by rw [HTS.out]; omega) _ HLC.out.laid).mono ?_
  rintro e w2 ⟨rfl,hb2⟩
  have HB2:Hid (Below w.heap.size w w2):=bel_to HBC.out hb2 (Nat.le_refl _)
  have HG2:Hid _:=keep_row HGC.out hb2
  have HGP2:Hid _:=keep_row HGPC.out hb2
  have HL2:Hid (Lay w2):=HLC.out.on hb2
  obtain ⟨f0,f1,f2,f3,f4,ff⟩:=row5 HG2.out
  clear hb2 e0 e1 e2 e3 e4 ef
  rw [HTL.out]
  cases hnum:Vi.numberOf t with
  | some v =>
    rw [numT_some hnum]
    have HNO:Hid (¬ LM.okEnt b.data.toList ⟨0,⟨t,m,q⟩,a,n⟩):=fun h=>by rw [HOK.out,hnum] at h; cases h.1
    clear hnum
    go_wp2_with fail
    refine (must_bad _).mono ?_
    rintro e w3 ⟨rfl,rfl⟩
    exact ⟨rfl,oneP_no HNO.out HB2.out⟩
  | none =>
    rw [numT_none hnum]
    have HNN:Hid _:=hnum
    clear hnum
    go_wp2_with fail
    refine (must_ok _).mono ?_
    rintro e w3 ⟨rfl,rfl⟩
    go_wp2_with fail
    refine (bsz_any n hn1 (by omega) _).mono ?_
    rintro e w3 ⟨rfl,rfl⟩
    obtain ⟨p0,p1,pf⟩:=prow2 HGP2.out
    have hg1:=LM.bsz_pos n
    have hg3:=LM.bsz_le3 n (by omega)
    by_cases h4:a + n + LM.bsz n ≤ b.size
    · go_wp2_with fail
      rw [show (a:Int) + (n:Int)=((a + n:Nat):Int) by omega]
      refine (cut_ok b (a + n) (LM.bsz n) (by omega) (by omega) _).mono ?_
      rintro e w3 ⟨rfl,rfl⟩
      obtain ⟨Z,hZ⟩:∃ Z,strB ((b.data.toList.drop (a + n)).take (LM.bsz n))=Z:=⟨_,rfl⟩
      have hZs:Z.size=LM.bsz n:=by rw [← hZ,strB_size,List.length_take,List.length_drop,list_len]; omega
      have HZL:Hid (Z.data.toList=(b.data.toList.drop (a + n)).take (LM.bsz n)):=by show _=_; rw [← hZ,strB_list]
      rw [hZ]
      clear hZ
      obtain ⟨cap,W',hrun,hbel,hWsz,hcl⟩:=conv_to Z w3
      have HB4:Hid (Below w.heap.size w W'):=bel_to HB2.out hbel (Nat.le_refl _)
      have HG4:Hid _:=keep_row HG2.out hbel
      obtain ⟨g0,g1,g2,g3,g4,gf⟩:=row5 HG4.out
      have HCL:Hid _:=hcl
      have hw3:w.heap.size + 1 < w3.heap.size:=row_lt HG2.out
      clear hcl hbel f0 f1 f2 f3 f4 ff p0 p1 pf
      go_wp2
      go_loopw [47] (fun cn wr=>wr=W'∧∃ i:Nat,i ≤ LM.bsz n∧cn=.int .i64 (i:Int)∧∀ j (h:j < Z.size),j < i → Z[j]=LM.bbyte n (LM.bsz n) j) (fun cn _=>LM.bsz n - (intOf cn).toNat)
      case atStart=>exact ⟨rfl,0,by omega,rfl,fun j _ h=>absurd h (by omega)⟩
      case round =>
        obtain ⟨rfl,i,hi,rfl,hall⟩:=hrel
        by_cases hlt:i < LM.bsz n
        · have c0:=HCL.out i (by omega)
          have hzi:i < Z.size:=by omega
          obtain ⟨x,hx⟩:∃ x:Int,((Z[i]'hzi).toNat:Int)=x:=⟨_,rfl⟩
          rw [hx] at c0
          have HX:Hid _:=hx
          have HALL:Hid _:=hall
          obtain ⟨y,hy⟩:∃ y:Int,((LM.bbyte n (LM.bsz n) i).toNat:Int)=y:=⟨_,rfl⟩
          have HBB:Hid (∀ W,Calls Tryz.prog 346 #[.int .i64 n,.int .i64 (LM.bsz n:Nat),.int .i64 i] W fun e w'=>e=.returned (.int .u8 y)∧w'=W):=fun W=>by
            rw [← hy]; exact bb_any n (LM.bsz n) i (by omega) hg3 hlt W
          have HY:Hid _:=hy
          clear hx hall hy
          by_cases hxy:x=y
          · subst hxy
            go_wp2_with fail
            refine (HBB.out _).mono ?_
            rintro e w5 ⟨rfl,rfl⟩
            go_wp2_with fail
            refine (must_ok _).mono ?_
            rintro e w5 ⟨rfl,rfl⟩
            go_wp2
            go_roundw
            case rel =>
              refine ⟨trivial,i + 1,hlt,rfl,fun j hj hji=>?_⟩
              rcases Nat.lt_succ_iff_lt_or_eq.1 hji with h | rfl
              · exact HALL.out j hj h
              · apply UInt8.toNat_inj.1
                have:=HX.out.trans HY.out.symm
                omega
            case measure=>simp [intOf]; omega
          · have hxf:(x == y)=false:=by simpa using hxy
            have HNO:Hid (¬ LM.okEnt b.data.toList ⟨0,⟨t,m,q⟩,a,n⟩):=fun h=>by
              rw [HOK.out] at h
              have h2:=HZL.out.trans h.2
              have h3:=congrArg (fun l=>l[i]?) h2
              simp only [at_list Z i hzi,LM.back,List.getElem?_map,List.getElem?_range hlt,Option.map_some,Option.some.injEq] at h3
              apply hxy
              rw [← HX.out,← HY.out,h3]
            clear hxy
            go_wp2_with fail
            refine (HBB.out _).mono ?_
            rintro e w5 ⟨rfl,rfl⟩
            go_wp2_with fail
            refine (must_bad _).mono ?_
            rintro e w5 ⟨rfl,rfl⟩
            exact ⟨rfl,oneP_no HNO.out HB4.out⟩
        · have he:i=LM.bsz n:=by omega
          subst he
          have HOKK:Hid (LM.okEnt b.data.toList ⟨0,⟨t,m,q⟩,a,n⟩):=by
            show LM.okEnt _ _
            rw [HOK.out]
            refine ⟨HNN.out,?_⟩
            rw [← HZL.out]
            refine List.ext_getElem (by rw [LM.back_len,list_len,hZs]) (fun j h1 h2=>?_)
            have hjz:j < Z.size:=by rw [list_len] at h1; exact h1
            have h3:=hall j hjz (by omega)
            have h4:=at_list Z j hjz
            rw [List.getElem?_eq_getElem h1] at h4
            rw [Option.some.inj h4,h3]
            simp [LM.back]
          clear hall
          go_wp2
          go_end0
          exact ⟨Or.inl ⟨rfl,HOKK.out⟩,HB4.out⟩
    · have HNO:Hid (¬ LM.okEnt b.data.toList ⟨0,⟨t,m,q⟩,a,n⟩):=fun h=>by
        rw [HOK.out] at h
        have:=congrArg List.length h.2
        rw [LM.back_len,List.length_take,List.length_drop,list_len] at this
        omega
      go_wp2_with fail
      rw [show (a:Int) + (n:Int)=((a + n:Nat):Int) by omega]
      refine (cut_bad b (a + n) (LM.bsz n) (by omega) (by omega) (by omega) _).mono ?_
      rintro e w3 ⟨rfl,rfl⟩
      exact ⟨rfl,oneP_no HNO.out HB2.out⟩
end Go.Proofs.YtiefeeoellagnaaGreatDoor.S6
namespace Go.Proofs.YtiefeeoellagnaaGreatDoor.S6
open Go.RowKit
set_option linter.unusedVariables false
theorem dsz_le (t:List UInt8) (m:Int) (q:Bool) (h:t.length ≤ 524288):LM.dsize ⟨t,m,q⟩ ≤ 524293:=by
  cases q
  · show LM.thead t.length + t.length ≤ _; unfold LM.thead; (repeat' split) <;> omega
  · show LM.nsize m ≤ _; unfold LM.nsize; (repeat' split) <;> omega
theorem one_any (b:ByteArray) (c:Int) (e:LM.Ent) (hs:b.size ≤ 1073741824) (ha:e.begin < b.size) (hrd:LM.rdItem (b.data.toList.drop e.begin)=some (e.it,e.span)) (w:World) (hw:Lay w) :
    Calls Tryz.prog 319 #[.agg #[.string b,.int .i64 c],encE e.it e.begin e.span] w (oneP b w e.it.txt e.it.num e.it.isN e.begin e.span):=by
  obtain ⟨p,⟨t,m,q⟩,a,n⟩:=e
  simp only at ha hrd ⊢
  have hk:=LM.rd_kind hrd
  have hsp:=LM.rd_span hrd
  rw [List.length_drop,list_len] at hk hsp
  have hS:∀ W,Wid W → Calls Tryz.prog 342 #[.agg #[.string (strB t),.int .i64 m,.bool q]] W fun e w'=>e=.returned (.int .i64 (LM.dsize ⟨t,m,q⟩:Nat))∧Below W.heap.size W w':=fun W hW=>size_any ⟨t,m,q⟩ _ hk (by omega) W hW
  have ht:t.length ≤ 1073741824:=by
    rcases hk with ⟨_,h2,_⟩ | ⟨_,_,h2⟩
    · simp only at h2; rw [h2]; simp
    · simp only at h2; omega
  by_cases hD:LM.dsize ⟨t,m,q⟩=n∧t.length ≤ 524288
  · obtain ⟨h1,h2⟩:=hD
    rw [h1] at hS
    refine one_ok b c t m q a n n rfl hs (by omega) hsp.1 ?_ h2 hS ?_ w hw
    · rw [← h1]; exact dsz_le t m q h2
    · constructor
      · intro h; exact ⟨h.2.1,h.2.2⟩
      · intro h; exact ⟨⟨h1,h2⟩,h.1,h.2⟩
  · refine one_bad1 b c t m q a n (LM.dsize ⟨t,m,q⟩:Nat) (n:Int) hs ha ht hS (fun h=>hD h.1) ?_ w hw
    rintro ⟨h1,h2⟩
    exact hD ⟨by omega,h2⟩
end Go.Proofs.YtiefeeoellagnaaGreatDoor.S6
