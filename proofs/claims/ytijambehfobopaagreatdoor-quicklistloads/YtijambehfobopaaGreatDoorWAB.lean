import Derived.Test.YtijambehfobopaaGreatDoorProg
import Derived.WalkKit
import Derived.WalkSpells
import Derived.WalkLawsBesides
import Derived.Handy
import Derived.Laws.BytesArg
import Derived.Laws.IdiomStrings
import Derived.Lib.AppendStr
import Derived.Deep.QuietTactic
import Derived.BigQuiet
import Derived.RangeFuncNested
import Derived.RangeFuncBound
import Derived.RangeFuncCalls
import Derived.RangeFuncLeaves
namespace Go.Proofs.YtijambehfobopaaGreatDoor
open Go.RowKit
set_option linter.unusedVariables false

theorem below_dn {B:Nat} {a w:World} (h:Below B a w) (n:Nat):Below B a (w.drewN n):=h.trans ⟨rfl,rfl,rfl,Nat.le_refl _,fun _ _=>rfl⟩
theorem at_list (s:ByteArray) (k:Nat) (h:k < s.size):s.data.toList[k]?=some s[k]:=by
  rw [List.getElem?_eq_getElem (by simpa using h)]; rfl
theorem list_len (s:ByteArray):s.data.toList.length=s.size:=by show _=s.data.size; simp
theorem drop_more (l:List UInt8) (i:Nat) (b:UInt8) (h:l[i]?=some b):l.drop i=b :: l.drop (i + 1):=by
  obtain ⟨hi,e⟩:=List.getElem?_eq_some_iff.1 h
  rw [List.drop_eq_getElem_cons hi,e]
theorem drop_at (s:ByteArray) (k:Nat) (h:k < s.size):s.data.toList.drop k=s[k] :: s.data.toList.drop (k + 1):=drop_more _ _ _ (at_list s k h)
theorem ext_any (s:ByteArray) (i j:Nat):(s.extract i j).data.toList=(s.data.toList.drop i).take (j - i):=by
  rw [ByteArray.data_extract]
  simp [Array.toList_extract,List.extract_eq_take_drop]
theorem ext_size (s:ByteArray) (i j:Nat) (h:j ≤ s.size):(s.extract i j).size=j - i:=by
  rw [ByteArray.size_extract]; omega
theorem str_same {a b:ByteArray} (h:a.data.toList=b.data.toList):(a.toList == b.toList)=true:=by
  rw [ByteArray.toList_eq,ByteArray.toList_eq,h]; simp
theorem str_other {a b:ByteArray} (h:a.data.toList ≠ b.data.toList):(a.toList == b.toList)=false:=by
  rw [ByteArray.toList_eq,ByteArray.toList_eq]; simpa using h
theorem ret_int {k:IntKind} {a b:Int} (h:a=b):Ending.returned (.int k a)=.returned (.int k b):=by rw [h]
def strB (l:List UInt8):ByteArray:=⟨l.toArray⟩
theorem strB_list (l:List UInt8):(strB l).data.toList=l:=by unfold strB; simp
theorem strB_size (l:List UInt8):(strB l).size=l.length:=by rw [← list_len,strB_list]
theorem strB_of (s:ByteArray):strB s.data.toList=s:=rfl
def bcells (l:List UInt8):List Value:=l.map fun b=>Value.int .u8 (b.toNat:Int)
theorem bcells_snoc (l:List UInt8) (b:UInt8):bcells (l ++ [b])=bcells l ++ [.int .u8 (b.toNat:Int)]:=by unfold bcells; rw [List.map_append]; rfl
theorem bcells_str (l:List UInt8) (s:ByteArray):bcells (l ++ s.data.toList)=bcells l ++ Lib.strCells s:=by unfold bcells Lib.strCells; rw [List.map_append]
theorem info5:(Tryz.prog.info? 5).map (fun i=>(i.zero,i.size,i.bytes))=some (some (.int .u8 0),1,1):=by kernel_rfl
theorem row_lt {w:World} {b:Nat} {o:Obj} (h:w.heap[b]?=some o):b < w.heap.size:=by
  rcases Nat.lt_or_ge b w.heap.size with h' | h'
  · exact h'
  · rw [Array.getElem?_eq_none h'] at h; cases h
theorem own_keep {w w':World} {base e size:Nat} {v:Value} {n:Nat} {xs:List Value} (h:w.ownsRow base e size v n xs) (hk:∀ k,base ≤ k → k < w.heap.size → w'.heap[k]?=w.heap[k]?):w'.ownsRow base e size v n xs:=by
  refine ⟨h.1,?_⟩
  rcases h.2 with h1 | ⟨g,cap,cur,hv,hb,hg,r⟩
  · exact Or.inl h1
  · exact Or.inr ⟨g,cap,cur,hv,hb,by rw [hk g hb (row_lt hg)]; exact hg,r⟩
theorem own_form {w:World} {base e size:Nat} {v:Value} {n:Nat} {xs:List Value} (h:w.ownsRow base e size v n xs):∃ p c,v=.slice p n c:=by
  rcases h.2 with ⟨e,hn⟩ | ⟨gg,cap',cur,e,_⟩
  · exact ⟨none,0,by rw [e,hn]⟩
  · exact ⟨_,_,e⟩
theorem conv_nil (w:World):Sem.run Tryz.prog (convert 107 9 (.slice none 0 0)) w=.ok (.string ⟨#[]⟩) w:=by kernel_rfl
theorem own_text {wr:World} {base:Nat} {v:Value} {l:List UInt8} (h:wr.ownsRow base 5 1 v l.length (bcells l)) :
    ∃ p c,v=.slice p l.length c∧Sem.run Tryz.prog (convert 107 9 (.slice p l.length c)) wr=.ok (.string (strB l)) wr:=by
  rcases h.2 with ⟨e,hn⟩ | ⟨g,cap,cur,hv,_,hg,hn,_,hs,ht⟩
  · have:l=[]:=List.length_eq_zero_iff.1 hn
    subst this
    exact ⟨none,0,e,conv_nil wr⟩
  · refine ⟨some ⟨g,0,none⟩,cap,hv,?_⟩
    refine run_convert_bytes_back wr 107 9 5 ⟨g,0,none⟩ cap l Tryz.underlying107 Tryz.underlying5 Tryz.underlying9 ?_
    intro j hj
    have e:(⟨g,0,none⟩:Addr).add j=⟨g,j,none⟩:=by unfold Addr.add; split <;> simp_all
    rw [e,cell_of_row _ _ _ _ _ _ hg]
    have h2:=congrArg (fun x=>x[j]?) ht
    simp only [Nat.mul_one,bcells] at h2
    rw [List.getElem?_take_of_lt hj,List.getElem?_map,List.getElem?_eq_getElem hj] at h2
    simpa using h2
end Go.Proofs.YtijambehfobopaaGreatDoor
set_option linter.unusedVariables false
namespace Go.Proofs.YtijambehfobopaaGreatDoor
open Go.RowKit
/-! A range over a function whose rounds,or whose iterator,may panic; seen from the one frame that it stands in. -/
section
variable {P:Program} {f0:FuncId} {n:Nat}
def WpB (P:Program) (f0:FuncId) (c:Code) (Q:Exit → Act → World → Prop) (a:Act) (w:World):Prop:=
  ∀ (b:Frame) (k:List Item) (cs:List Frame),b.roundOf=none → b.fn=f0 →
    ∃ e a' w',Q e a' w'∧ArrivesIn (Machine.fenced P Fence.wide) P (lone (b.atR a (.code c :: k)) cs w) b k cs e a' w'
theorem wpB_of {c:Code} {Q:Exit → Act → World → Prop} {a:Act} {w:World} (h:c.wpIn Fence.wide n P Q a w):WpB P f0 c Q a w:=
  fun b k cs hro _=>h b k cs hro trivial (room_wide _)
theorem wpB_seq {x y:Code} {Q:Exit → Act → World → Prop} {a:Act} {w:World} (h:WpB P f0 x (Exit.then (WpB P f0 y Q) Q) a w):WpB P f0 (Code.seq x y) Q a w:=by
  intro b k cs hro hb
  have h0:(lone (b.atR a (.code (.seq x y) :: k)) cs w).fenced P Fence.wide:=fenced_wide _ _
  obtain ⟨e,a1,w1,hq,harr⟩:=h b (.code y :: k) cs hro hb
  cases e with
  | normal =>
    obtain ⟨e2,a2,w2,hq2,harr2⟩:=hq b k cs hro hb
    exact ⟨e2,a2,w2,hq2,.of_steps (.head h0 stepR_seq harr) harr2⟩
  | exit id=>exact ⟨_,a1,w1,hq,.of_steps (.one h0 stepR_seq) (.pass (x:=.code y) rfl (fun _ _=>.inl (by simp)) harr)⟩
  | goto l=>exact ⟨_,a1,w1,hq,.of_steps (.one h0 stepR_seq) (.pass (x:=.code y) rfl (fun _ _=>.inl (by simp)) harr)⟩
  | ret=>exact ⟨_,a1,w1,hq,.of_steps (.one h0 stepR_seq) (.pass (x:=.code y) rfl (fun _ _=>.inl (by simp)) harr)⟩
  | panic ch=>exact ⟨_,a1,w1,hq,.of_steps (.one h0 stepR_seq) (.pass (x:=.code y) rfl (fun _ _=>.inl (by simp)) harr)⟩
  | outgrown=>exact ⟨_,a1,w1,hq,.of_steps (.one h0 stepR_seq) (.pass (x:=.code y) rfl (fun _ _=>.inl (by simp)) harr)⟩
theorem wpB_block {id:Nat} {c:Code} {Q:Exit → Act → World → Prop} {a:Act} {w:World} (h:WpB P f0 c (Exit.inBlock id Q) a w):WpB P f0 (Code.block id c) Q a w:=by
  intro b k cs hro hb
  have h0:(lone (b.atR a (.code (.block id c) :: k)) cs w).fenced P Fence.wide:=fenced_wide _ _
  obtain ⟨e,a1,w1,hq,harr⟩:=h b (.inBlock id :: k) cs hro hb
  cases e with
  | normal=>exact ⟨.normal,a1,w1,hq,.head h0 stepR_block (StepsIn.trans harr (.one (fenced_wide _ _) stepR_inBlock))⟩
  | exit id' =>
    by_cases hid:id'=id
    · simp only [Exit.inBlock,hid,if_true] at hq
      exact ⟨.normal,a1,w1,hq,.head h0 stepR_block (harr.1 k (by simp [exitTo,hid]))⟩
    · simp only [Exit.inBlock,hid,if_false] at hq
      have this:(id == id')=false:=by simp; exact fun h=>hid h.symm
      have hx:exitTo id' (.inBlock id :: k)=exitTo id' k:=by simp [exitTo,this]
      exact ⟨.exit id',a1,w1,hq,fun k' hk=>.head h0 stepR_block (harr.1 k' (by rw [hx]; exact hk)),
        fun hr' hk=>let ⟨k1,h1,h2⟩:=harr.2 hr' (by rw [hx]; exact hk); ⟨k1,h1,.head h0 stepR_block h2⟩⟩
  | goto l =>
    have hx:gotoIn l (.inBlock id :: k)=gotoIn l k:=by simp [gotoIn]
    exact ⟨_,a1,w1,hq,fun k' hk=>.head h0 stepR_block (harr.1 k' (by rw [hx]; exact hk)),
      fun hr' hk=>let ⟨k1,h1,h2⟩:=harr.2 hr' (by rw [hx]; exact hk); ⟨k1,h1,.head h0 stepR_block h2⟩⟩
  | ret=>exact ⟨_,a1,w1,hq,.of_steps (.one h0 stepR_block) harr⟩
  | panic ch=>exact ⟨_,a1,w1,hq,.of_steps (.one h0 stepR_block) harr⟩
  | outgrown=>exact ⟨_,a1,w1,hq,.of_steps (.one h0 stepR_block) harr⟩
theorem wpB_then {x y:Code} {Q:Exit → Act → World → Prop} {a:Act} {w:World} (h:x.wpIn Fence.wide n P (Exit.then (WpB P f0 y Q) Q) a w):WpB P f0 (Code.seq x y) Q a w:=
  wpB_seq (wpB_of h)
theorem calls_of_wpB {fn:Func} {c:Code} {args:Array Value} {w:World} {R:Ending → World → Prop} (n:Nat)
    (hf:P.funcs[f0]?=some fn) (hb:fn.body=some c)
    (h:WpB P f0 c (bodyPostM Fence.wide n P fn R) { tmps:=args ++ Array.replicate (fn.ntmps - args.size) undef,defers:=[] } w):Calls P f0 args w R:=by
  refine (callsIn_wide (n:=n)).1 ⟨trivial,fun cs hr=>?_⟩
  let b:Frame:={ (default:Frame) with fn:=f0,kind:=.normal,roundOf:=none }
  have henter:Frame.enter P f0 args .normal =
      b.atR { tmps:=args ++ Array.replicate (fn.ntmps - args.size) undef,defers:=[] } [.code c]:=by
    simp [Frame.enter,Frame.atR,hf,hb,b]
  obtain ⟨e,a',w',hq,harr⟩:=h b [] cs rfl rfl
  rw [← henter] at harr
  cases e with
  | normal =>
    obtain ⟨e',w'',fr',hR,hs,hfn,hl⟩:=leaves_stepsInM a'.defers .returning w' { b.atR a' [] with mode:=.returning } cs rfl rfl rfl hf rfl trivial hr hq
    exact ⟨e',w'',fr',hR,ComesIn.of_steps (StepsIn.trans harr (.one (fenced_wide _ _) (stepR_end rfl))) hs,hfn,hl⟩
  | ret =>
    obtain ⟨todo,hs0⟩:=harr.1 rfl
    obtain ⟨e',w'',fr',hR,hs,hfn,hl⟩:=leaves_stepsInM a'.defers .returning w' { b.atR a' todo with mode:=.returning } cs rfl rfl rfl hf rfl trivial hr hq
    exact ⟨e',w'',fr',hR,ComesIn.of_steps hs0 hs,hfn,hl⟩
  | panic chain =>
    obtain ⟨todo,hs0⟩:=harr
    obtain ⟨e',w'',fr',hR,hs,hfn,hl⟩:=leaves_stepsInM a'.defers (.panicking chain) w' { b.atR a' todo with mode:=.panicking chain } cs rfl rfl rfl hf rfl trivial hr hq
    exact ⟨e',w'',fr',hR,ComesIn.of_steps hs0 hs,hfn,hl⟩
  | exit id=>exact hq.elim
  | goto l=>exact hq.elim
  | outgrown=>exact ⟨.outgrown,w',b,hq,harr.resolve_left (by simp [b]),rfl,trivial⟩

def rndPost (P:Program) (l:Nat) (R:Ending → World → Prop):Exit → Act → World → Prop
  | .panic ch,a,w=>a.defers=[]∧R (.panicked ch) w
  | e,a,w=>roundPost P l R e a w
theorem rnd_of_wp {l:Nat} {f:FuncId} {fd:Func} {tmps:Array Value} {assign body:Code} {w:World} {R:Ending → World → Prop} (hf:P.funcs[f]?=some fd)
    (h:assign.wpIn (Fence.wide.inRound l) n P (Exit.then (fun a1 w1=>∃ w2,(Instr.beginRound l).run P w1=.ok () w2∧body.wpIn (Fence.wide.inRound l) n P (rndPost P l R) a1 w2) (fun _ _ _=>False))
      { tmps:=tmps,defers:=[] } w) :
    RoundIn Fence.wide n P l f tmps assign body w R:=by
  refine ⟨trivial,fun c cs hr=>?_⟩
  let b:Frame:={ (default:Frame) with fn:=f,kind:=.normal,roundOf:=some l }
  have hb0:Frame.round l f tmps assign body .normal=b.atR { tmps:=tmps,defers:=[] } [.code assign,.beginRound,.code body]:=by
    simp [Frame.round,Frame.atR,b]
  have hw:∀ m,Machine.fenced P (Fence.wide.inRound l) m:=fun m=>fenced_wide P m
  obtain ⟨e,a1,w1,hq,harr⟩:=h b [.beginRound,.code body] (c :: cs) rfl trivial (room_wide _)
  rw [← hb0] at harr
  cases e with
  | normal =>
    obtain ⟨w2,hbr,hbody⟩:=hq
    have s1:StepsIn (Machine.fenced P (Fence.wide.inRound l)) P (lone (b.atR a1 [.beginRound,.code body]) (c :: cs) w1) (lone (b.atR a1 [.code body]) (c :: cs) w2):=
      .one (hw _) (stepR_beginRound rfl hbr)
    obtain ⟨e2,a2,w3,hq2,harr2⟩:=hbody b [] (c :: cs) rfl trivial (room_wide _)
    cases e2 with
    | normal =>
      obtain ⟨v,w4,hend,hR⟩:=hq2
      exact ⟨.returned v,w4,hR,(StepsIn.trans harr s1).trans (StepsIn.trans harr2 (.one (hw _) (stepR_round_end rfl rfl hend)))⟩
    | ret =>
      obtain ⟨v,w4,hend,hR⟩:=hq2
      obtain ⟨k1,hs⟩:=harr2.2 rfl
      exact ⟨.returned v,w4,hR,(StepsIn.trans harr s1).trans (StepsIn.trans hs (.one (hw _) (stepR_round_ret rfl rfl hend)))⟩
    | exit id =>
      obtain ⟨v,w4,hend,hR⟩:=hq2
      obtain ⟨k1,hk,hs⟩:=harr2.2 rfl rfl
      exact ⟨.returned v,w4,hR,(StepsIn.trans harr s1).trans (StepsIn.trans hs (.one (hw _) (stepR_round_exit rfl rfl hk hend)))⟩
    | goto t =>
      obtain ⟨v,w4,hend,hR⟩:=hq2
      obtain ⟨k1,hk,hs⟩:=harr2.2 rfl rfl
      exact ⟨.returned v,w4,hR,(StepsIn.trans harr s1).trans (StepsIn.trans hs (.one (hw _) (stepR_round_goto rfl rfl hk hend)))⟩
    | panic ch =>
      obtain ⟨hd,hR⟩:=hq2
      obtain ⟨todo,hs⟩:=harr2
      exact ⟨.panicked ch,w3,hR,(StepsIn.trans harr s1).trans (StepsIn.trans hs (.one (hw _) (step_leave_panicked ⟨rfl,hd,fd,hf⟩)))⟩
    | outgrown=>exact hq2.elim
  | exit id=>exact hq.elim
  | goto t=>exact hq.elim
  | ret=>exact hq.elim
  | panic chain=>exact hq.elim
  | outgrown=>exact hq.elim

def KC (B:Nat) (W W':World):Prop:=∀ (k:Nat) (o:Obj),B ≤ k → W.heap[k]?=some o → o.isCells=true → W'.heap[k]?=some o
structure KA (B:Nat) (W W':World):Prop where
  size:W.heap.size ≤ W'.heap.size
  same:∀ (k:Nat) (o:Obj),B ≤ k → W.heap[k]?=some o → W'.heap[k]?=some o
theorem KA.refl (B:Nat) (W:World):KA B W W:=⟨Nat.le_refl _,fun _ _ _ h=>h⟩
theorem KA.trans {B:Nat} {X Y Z:World} (h:KA B X Y) (k:KA B Y Z):KA B X Z:=⟨Nat.le_trans h.size k.size,fun i o hB hi=>k.same i o hB (h.same i o hB hi)⟩
theorem KA.of_below {B:Nat} {W W':World} (h:Below W.heap.size W W'):KA B W W':=
  ⟨h.size,fun k o _ hk=>(h.block k (Array.getElem?_eq_some_iff.1 hk).1).trans hk⟩
theorem KA.setCell {B:Nat} (W:World) (a:Addr) (v:Value) (h:a.block < B):KA B W (W.setCell a v):=
  ⟨(KeepsWalks.setCell W a v).size,fun k o hk e=>(Below.heap_setCell W a v k (by omega)).trans e⟩
theorem KC.putObj {B:Nat} {W:World} {l:Nat} {o o':Obj} (hl:W.heap[l]?=some o) (ho:o.isCells=false):KC B W (W.putObj l o'):=fun k x _ hk hx=>by
  have:k ≠ l:=by rintro rfl; rw [hl] at hk; cases hk; rw [ho] at hx; cases hx
  exact (World.putObj_heap_other this).trans hk
theorem grown_of_below {A B:World} (h:Below A.heap.size A B):A.grownBy B none:=⟨h.1,h.2,h.3,h.size,fun k hk _=>h.block k hk⟩

def SeqP {α:Type} (n:Nat) (P:Program) (g:Nat) (lb:Array Value) (encs:α → Array Value) (L:List α) (bad:Bool) (pch:List PanicEntry) (box:World → Prop) (B0:Nat):Prop:=
  ∀ (l:Nat) (J Jx:List α → World → Prop) (Jp:World → Prop) (W:World),B0 ≤ W.heap.size → (∀ s A B,J s A → Below A.heap.size A B → J s B) → (∀ s A,J s A → box A) →
    (∀ s A B,Jx s A → Below A.heap.size A B → Jx s B) →
    (∀ pre x W1,pre ++ [x] <+: L → J pre W1 → YieldAt Fence.wide (n - 1) P l (encs x) W1 fun e W' =>
      (e=.returned (.bool true)∧J (pre ++ [x]) W'∧KC B0 W1 W'∧W1.heap.size ≤ W'.heap.size) ∨ (e=.returned (.bool false)∧Jx (pre ++ [x]) W') ∨ (e=.panicked pch∧Jp W')) →
    J [] W →
    CallsIn Fence.wide n P g (#[.func (.yield l) #[] #[]] ++ lb) W fun e W' =>
      ((∃ v,e=.returned v)∧bad=false∧J L W') ∨ ((∃ v,e=.returned v)∧∃ pre,pre <+: L∧Jx pre W') ∨ (e=.panicked pch∧(Jp W' ∨ (bad=true∧J L W')))

def pPost {α:Type} (B:Nat) (pch:List PanicEntry) (I:List α → World → Prop) (Ix:Code → List α → World → Prop) (Ip:World → Prop) (xs:List α) (W:World):Exit → Act → World → Prop
  | .normal,_,W'=>KA B W W'∧I xs W'
  | .ret,_,W'=>KA B W W'∧Ix .ret xs W'
  | .exit id,_,W'=>KA B W W'∧Ix (.exit id) xs W'
  | .goto t,_,W'=>KA B W W'∧Ix (.goto t) xs W'
  | .panic ch,a,W'=>a.defers=[]∧ch=pch∧KA B W W'∧Ip W'
  | .outgrown,_,_=>False

theorem wpB_range {α:Type} {g:Operand} {ps:Array Tmp} {assign body:Code} {Q:Exit → Act → World → Prop} {a:Act} {w:World} {fd:Func} (hfd:P.funcs[f0]?=some fd)
    {gf:Nat} {lb:Array Value} (hg:a.eval g=.func (.func gf) #[] lb) (eg:∀ args w,(callFunc gf args).run P w=.ok (.enter gf args) w)
    {encs:α → Array Value} {L:List α} {bad:Bool} {pch:List PanicEntry} {box:World → Prop} (hseq:SeqP (n - 1) P gf lb encs L bad pch box w.heap.size)
    (hps:∀ x,(encs x).size=ps.size)
    (I:List α → World → Prop) (Ix:Code → List α → World → Prop) (Ip:World → Prop) (hI:OwnFrom w.heap.size I) (hIx:∀ c,OwnFrom w.heap.size (Ix c)) (hIp:OwnFrom w.heap.size (fun (_:Unit) W=>Ip W))
    (hbox:∀ pre W,I pre W → box W) (h0:I [] w) (Ax:α → Act → World → Prop) (hAx:∀ x a',OwnFrom w.heap.size (fun (_:Unit) W=>Ax x a' W))
    (hassign:∀ (l:Nat) (pre:List α) (x:α) (W:World) (K:Act → World → Prop),pre ++ [x] <+: L → I pre W → (∀ a' W',Below W.heap.size W W' → Ax x a' W' → K a' W') →
      assign.wpIn (Fence.wide.inRound l) (n - 1 - 1) P (Exit.then K (fun _ _ _=>False)) { tmps:=(ps.zip (encs x)).foldl (fun t (p,v)=>t.setIfInBounds p v) a.tmps,defers:=[] } W)
    (hbody:∀ (l:Nat) (pre:List α) (x:α) (a':Act) (W:World),w.heap.size ≤ l → pre ++ [x] <+: L → I pre W → Ax x a' W → body.wpIn (Fence.wide.inRound l) (n - 1 - 1) P (pPost w.heap.size pch I Ix Ip (pre ++ [x]) W) a' W)
    (hdone:∀ (D:Nat) (W:World),w.heap.size ≤ D → bad=false → I L W → W.heap[D]?=some (.deferred (some [])) → Q .normal { a with defers:={ target:=.collected D,args:=#[] } :: a.defers } W)
    (hstop:∀ (D:Nat) (c:Code) (pre:List α) (W:World),w.heap.size ≤ D → pre <+: L → Ix c pre W → W.heap[D]?=some (.deferred (some [])) → WpB P f0 c Q { a with defers:={ target:=.collected D,args:=#[] } :: a.defers } W)
    (hpan:∀ (D:Nat) (W:World),w.heap.size ≤ D → (Ip W ∨ (bad=true∧I L W)) → W.heap[D]?=some (.deferred (some [])) → Q (.panic pch) { a with defers:={ target:=.collected D,args:=#[] } :: a.defers } W) :
    WpB P f0 (Code.rangeFunc g ps assign body) Q a w:=by
  intro b k cs hro hb
  obtain ⟨rec,hrec⟩:∃ rec:LoopState → Option Code → Loop,rec=fun st pe=>{ state:=st,pending:=pe,fn:=f0,tmps:=a.tmps,params:=ps,assign,body,defers:=w.heap.size }:=⟨_,rfl⟩
  obtain ⟨W1,hW1⟩:∃ W1,(w.alloc (.deferred (some []))).alloc (.loop (rec .ready none))=W1:=⟨_,rfl⟩
  have hL1:W1.heap[w.heap.size + 1]?=some (.loop (rec .ready none)):=by
    rw [← hW1]; have:=World.alloc_heap_new (w.alloc (.deferred (some []))) (.loop (rec .ready none)); rwa [World.size_alloc] at this
  have hK1:W1.heap[w.heap.size]?=some (.deferred (some [])):=by
    rw [← hW1]; exact (Below.heap_alloc _ _ _ (by simp)).trans (World.alloc_heap_new w _)
  have hI1:I [] W1:=by rw [← hW1]; exact hI.alloc _ (hI.alloc _ h0)
  have he:(Instr.enterLoop b.fn a.tmps ps assign body b.roundOf).run P w=.ok (w.heap.size + 1,[{ target:=.collected w.heap.size,args:=#[] }]) W1:=by
    rw [hro,hb,← hW1,hrec]; exact run_enterLoop_outer _ _ _ _ _
  have hres:(resolve a.eval (rangeCall g (w.heap.size + 1)) 0).run P W1=.ok { target:=.fn (.func gf) lb,args:=#[.func (.yield (w.heap.size + 1)) #[] #[]] } W1:=by
    simp only [resolve,hg]
    simp [go_sem]
  have hinv:(invoke (.fn (.func gf) lb) #[.func (.yield (w.heap.size + 1)) #[] #[]]).run P W1=.ok (.enter gf (#[.func (.yield (w.heap.size + 1)) #[] #[]] ++ lb)) W1:=by
    simp [invoke,go_sem,eg]
  have henter:=stepR_rangeFunc (P:=P) (b:=b) (a:=a) (k:=k) (cs:=cs) (w:=w) he hres hinv
  have keep0:∀ {A B:World} {l:Nat} {o:Obj},Below A.heap.size A B → A.heap[l]?=some o → B.heap[l]?=some o:=fun hg' hl =>
    (hg'.block _ (Array.getElem?_eq_some_iff.1 hl).1).trans hl
  have hcall:=hseq (w.heap.size + 1)
      (fun pre W=>I pre W∧W.heap[w.heap.size + 1]?=some (.loop (rec .ready none))∧W.heap[w.heap.size]?=some (.deferred (some [])))
      (fun pre W=>∃ c,Ix c pre W∧W.heap[w.heap.size + 1]?=some (.loop (rec .done (some c)))∧W.heap[w.heap.size]?=some (.deferred (some [])))
      (fun W=>Ip W∧W.heap[w.heap.size]?=some (.deferred (some [])))
      W1 (by rw [← hW1]; simp; omega)
      (fun s A B hs hg'=>⟨hI s A B none hs.1 (grown_of_below hg') (fun r e=>by cases e),keep0 hg' hs.2.1,keep0 hg' hs.2.2⟩)
      (fun s A hs=>hbox s A hs.1)
      (fun s A B hs hg'=>by
        obtain ⟨c,hc,hl,hk⟩:=hs
        exact ⟨c,hIx c s A B none hc (grown_of_below hg') (fun r e=>by cases e),keep0 hg' hl,keep0 hg' hk⟩)
      (by
        rintro pre x Wz hpre ⟨hi0,hl0,hk0⟩
        have hy:=run_yield (P:=P) (args:=encs x) hl0 (by rw [hrec]; exact hps x)
        rw [hrec] at hy
        refine ⟨f0,_,assign,body,hy,rnd_of_wp hfd (hassign _ pre x Wz _ hpre hi0 ?_)⟩
        clear hy
        intro a' W hba hax
        have hi:I pre W:=hI pre Wz W none hi0 (grown_of_below hba) (fun r e=>by cases e)
        have hkc:KC w.heap.size Wz W:=fun q o _ hq _=>keep0 hba hq
        have hsz:=hba.size
        have hl:=keep0 hba hl0
        have hk:=keep0 hba hk0
        have hlt:w.heap.size + 1 < W.heap.size:=(Array.getElem?_eq_some_iff.1 hl).1
        refine ⟨_,run_beginRound hl (by rw [hrec]),?_⟩
        have hl2:(W.putObj (w.heap.size + 1) (.loop { rec .ready none with state:=.busy })).heap[w.heap.size + 1]?=some (.loop { rec .ready none with state:=.busy }):=World.putObj_heap_same hlt
        have hk2:(W.putObj (w.heap.size + 1) (.loop { rec .ready none with state:=.busy })).heap[w.heap.size]?=some (.deferred (some [])):=(World.putObj_heap_other (by omega)).trans hk
        refine wpIn_mono (hbody _ pre x a' _ (by omega) hpre (hI.putObj _ hi (by omega) hl rfl) ((hAx x a').putObj (s:=()) _ hax (by omega) hl rfl)) ?_
        have fin:∀ (jump:Option Code) (W3:World),KA w.heap.size (W.putObj (w.heap.size + 1) (.loop { rec .ready none with state:=.busy })) W3 →
            (Instr.endRound (w.heap.size + 1) jump).run P W3=.ok (.bool jump.isNone) (W3.putObj (w.heap.size + 1) (.loop (rec (if jump.isNone then .ready else .done) jump))) ∧
            W3.heap[w.heap.size + 1]?=some (.loop { rec .ready none with state:=.busy }) ∧
            (W3.putObj (w.heap.size + 1) (.loop (rec (if jump.isNone then .ready else .done) jump))).heap[w.heap.size + 1]?=some (.loop (rec (if jump.isNone then .ready else .done) jump)) ∧
            (W3.putObj (w.heap.size + 1) (.loop (rec (if jump.isNone then .ready else .done) jump))).heap[w.heap.size]?=some (.deferred (some [])):=fun jump W3 hk3=>by
          have hl3:=hk3.same _ _ (by omega) hl2
          have:=run_endRound (P:=P) jump hl3
          rw [hrec] at this ⊢
          exact ⟨this,by rw [hrec] at hl3; exact hl3,World.putObj_heap_same (Array.getElem?_eq_some_iff.1 hl3).1,(World.putObj_heap_other (by omega)).trans (hk3.same _ _ (Nat.le_refl _) hk2)⟩
        rintro e a3 W3 hp
        cases e with
        | normal =>
          obtain ⟨hk3,hi3⟩:=hp
          obtain ⟨hr,hl3,hl4,hk4⟩:=fin none W3 hk3
          refine ⟨_,_,hr,.inl ⟨rfl,⟨hI.putObj _ hi3 (by omega) hl3 rfl,hl4,hk4⟩,?_,?_⟩⟩
          · intro q o hq ho hc
            exact KC.putObj hl3 rfl q o hq (hk3.same q o hq (KC.putObj hl rfl q o hq (hkc q o hq ho hc) hc)) hc
          · have:=hk3.size; simp at this ⊢; omega
        | ret =>
          obtain ⟨hk3,hi3⟩:=hp
          obtain ⟨hr,hl3,hl4,hk4⟩:=fin (some .ret) W3 hk3
          exact ⟨_,_,hr,.inr (.inl ⟨rfl,.ret,(hIx _).putObj _ hi3 (by omega) hl3 rfl,hl4,hk4⟩)⟩
        | exit id =>
          obtain ⟨hk3,hi3⟩:=hp
          obtain ⟨hr,hl3,hl4,hk4⟩:=fin (some (.exit id)) W3 hk3
          exact ⟨_,_,hr,.inr (.inl ⟨rfl,.exit id,(hIx _).putObj _ hi3 (by omega) hl3 rfl,hl4,hk4⟩)⟩
        | goto t =>
          obtain ⟨hk3,hi3⟩:=hp
          obtain ⟨hr,hl3,hl4,hk4⟩:=fin (some (.goto t)) W3 hk3
          exact ⟨_,_,hr,.inr (.inl ⟨rfl,.goto t,(hIx _).putObj _ hi3 (by omega) hl3 rfl,hl4,hk4⟩)⟩
        | panic ch =>
          obtain ⟨hd,rfl,hk3,hi3⟩:=hp
          exact ⟨hd,.inr (.inr ⟨rfl,hi3,hk3.same _ _ (Nat.le_refl _) hk2⟩)⟩
        | outgrown=>exact hp.elim)
      ⟨hI1,hL1,hK1⟩
  obtain ⟨e,w3,fr,hR,hsteps,hfn,hleave⟩:=hcall.2 (b.atR { a with defers:=[{ target:=.collected w.heap.size,args:=#[] }] ++ a.defers } (.inRangeFunc (w.heap.size + 1) :: k) :: cs) (room_wide _)
  have sback:∀ (v:Value) (jump:Option Code) (w4:World),e=.returned v → (Instr.endLoop (w.heap.size + 1)).run P w3=.ok jump w4 →
      StepsIn (Machine.fenced P Fence.wide) P (lone (b.atR a (.code (.rangeFunc g ps assign body) :: k)) cs w) (lone (b.atR { a with defers:=[{ target:=.collected w.heap.size,args:=#[] }] ++ a.defers } ((jump.map Item.code).toList ++ k)) cs w4):=by
    rintro v jump w4 rfl hend
    refine .head (fenced_wide _ _) henter (StepsIn.trans hsteps (.head (fenced_wide _ _) ?_ (.one (fenced_wide _ _) (stepR_endRangeFunc hend))))
    rw [← finish_atR_inRangeFunc (w.heap.size + 1) v]; exact step_leave_returned hleave
  rcases hR with ⟨⟨v,rfl⟩,hbad,hi,hl,hk⟩ | ⟨⟨v,rfl⟩,pre,hpre,c,hi,hl,hk⟩ | ⟨rfl,hp⟩
  · have hend:(Instr.endLoop (w.heap.size + 1)).run P w3=.ok none (w3.putObj (w.heap.size + 1) (.loop { rec .ready none with state:=.exhausted })):=by have:=run_endLoop (P:=P) hl (by rw [hrec]; simp); rw [hrec] at this ⊢; exact this
    exact ⟨.normal,_,_,hdone w.heap.size _ (Nat.le_refl _) hbad (hI.putObj _ hi (by omega) hl rfl) ((World.putObj_heap_other (by omega)).trans hk),sback v none _ rfl hend⟩
  · have hend:(Instr.endLoop (w.heap.size + 1)).run P w3=.ok (some c) (w3.putObj (w.heap.size + 1) (.loop { rec .done (some c) with state:=.exhausted })):=by have:=run_endLoop (P:=P) hl (by rw [hrec]; simp); rw [hrec] at this ⊢; exact this
    obtain ⟨e',a'',w5,hq,harr⟩:=hstop w.heap.size c pre _ (Nat.le_refl _) hpre ((hIx c).putObj _ hi (by omega) hl rfl) ((World.putObj_heap_other (by omega)).trans hk) b k cs hro hb
    exact ⟨e',a'',w5,hq,.of_steps (sback v (some c) _ rfl hend) harr⟩
  · refine ⟨.panic pch,{ a with defers:=[{ target:=.collected w.heap.size,args:=#[] }] ++ a.defers },w3,?_,.inRangeFunc (w.heap.size + 1) :: k,.head (fenced_wide _ _) henter (StepsIn.trans hsteps (.one (fenced_wide _ _) ?_))⟩
    · rcases hp with ⟨hi,hk⟩ | ⟨hbad,hi,_,hk⟩
      · exact hpan w.heap.size w3 (Nat.le_refl _) (.inl hi) hk
      · exact hpan w.heap.size w3 (Nat.le_refl _) (.inr ⟨hbad,hi⟩) hk
    · rw [← Frame.raise_atR]; exact step_leave_panicked hleave
end
end Go.Proofs.YtijambehfobopaaGreatDoor
