import Derived.Test.YtijambehfobopaaGreatDoorWAE
import Derived.ArgAppend
import Derived.Deep.Cut
import Derived.Deep.CutRange
import Derived.Deep.RegionHeld3
import Derived.Deep.RegionLaw
import Derived.Deep.RegionWith
import Derived.BigRegion
import Derived.Laws.AppendOwnNone
import Derived.Laws.MakeOwn
import Derived.Laws.OwnMore
import Derived.OwnWalk
import Derived.Lib.AppendZerosOnto
import Derived.Shelf.Spec.SlicesInsert
import Derived.Lib.Builder
import Derived.Lib.MakeNoZero
import Derived.Lib.UnsafeStr
import Derived.Laws.Externs
import Derived.Laws.IdiomCopy
set_option linter.unusedVariables false
namespace Go.Proofs.YtijambehfobopaaGreatDoor.QM
abbrev Txt:=ByteArray
abbrev NL:=List (List Txt)
/-! a list's nodes as plain lists. -/
def plc:NL → Nat → Nat × Nat
  | [],i=>(0,i)
  | x :: N,i=>if i < x.length then (0,i) else ((plc N (i - x.length)).1 + 1,(plc N (i - x.length)).2)
theorem plc_spec:∀ (N:NL) (i:Nat),i < N.flatten.length → ∃ A x C,N=A ++ x :: C∧(plc N i).1=A.length∧(plc N i).2 < x.length∧A.flatten.length + (plc N i).2=i
  | [],i,h=>by simp at h
  | x :: N,i,h=>by
    unfold plc
    by_cases hi:i < x.length
    · exact ⟨[],x,N,rfl,by simp [hi],by simp [hi],by simp [hi]⟩
    · rw [List.flatten_cons,List.length_append] at h
      obtain ⟨A,y,C,h1,h2,h3,h4⟩:=plc_spec N (i - x.length) (by omega)
      refine ⟨x :: A,y,C,by rw [h1]; rfl,by simp [hi,h2],by simpa [hi] using h3,?_⟩
      rw [List.flatten_cons,List.length_append,if_neg hi]; show _ + (plc N (i - x.length)).2=i; omega
theorem plc_at (A:NL) (x:List Txt) (C:NL) (k:Nat) (hk:k < x.length):plc (A ++ x :: C) (A.flatten.length + k)=(A.length,k):=by
  induction A with
  | nil=>simp [plc,hk]
  | cons y A ih =>
    simp only [List.cons_append,plc]
    rw [if_neg (by rw [List.flatten_cons,List.length_append]; omega)]
    rw [show (y :: A).flatten.length + k - y.length=A.flatten.length + k by rw [List.flatten_cons,List.length_append]; omega,ih]; rfl
def ne (y:List Txt):NL:=if y=[] then [] else [y]
theorem ne_some {y:List Txt} (h:y ≠ []):ne y=[y]:=by unfold ne; rw [if_neg h]
theorem ne_flat (y:List Txt):(ne y).flatten=y:=by unfold ne; split <;> simp [*]
def nes (vs:NL):NL:=vs.filter (fun y=>!y.isEmpty)
theorem nes_cons (y:List Txt) (vs:NL):nes (y :: vs)=ne y ++ nes vs:=by
  unfold nes ne; cases y <;> simp
def rep (N:NL) (n m:Nat) (vs:NL):NL:=N.take n ++ (nes vs ++ N.drop (n + m))
def delE:NL → Nat → Nat → NL
  | [],_,_=>[]
  | x :: N,i,e=>ne (x.take i ++ x.drop e) ++ delE N (i - x.length) (e - x.length)
def whl:NL → Nat → Nat
  | [],_=>0
  | x :: N,r=>if x.length ≤ r then whl N (r - x.length) + 1 else 0
/-! what must hold of a list's nodes. -/
structure Inv (E B:Nat) (N:NL):Prop where
  le:1 ≤ E∧E ≤ 4096
  lb:B ≤ 4096
  some:∀ x ∈ N,x ≠ []
  few:∀ x ∈ N,x.length ≤ E
  short:∀ x ∈ N,∀ t ∈ x,t.size ≤ 524288
  alone:∀ x ∈ N,∀ t ∈ x,B < t.size → x.length=1
def lg (B:Nat) (x:List Txt):Bool:=match x with
  | t :: _=>decide (B < t.size)
  | []=>false
theorem lg_alone {E B:Nat} {N:NL} (h:Inv E B N) {x:List Txt} (hx:x ∈ N) (hl:lg B x=true):∃ t,x=[t]∧B < t.size:=by
  cases x with
  | nil=>simp [lg] at hl
  | cons t x =>
    simp [lg] at hl
    have:=h.alone _ hx t (by simp) hl
    simp at this
    exact ⟨t,by rw [this],hl⟩
theorem lg_not {E B:Nat} {N:NL} (h:Inv E B N) {x:List Txt} (hx:x ∈ N) (hl:lg B x=false):∀ t ∈ x,t.size ≤ B:=by
  intro t ht
  by_cases hb:B < t.size
  · have:=h.alone _ hx t ht hb
    cases x with
    | nil=>simp at ht
    | cons u x =>
      simp at this; subst this
      simp at ht; subst ht
      simp [lg] at hl; omega
  · omega
theorem Inv.empty {E B:Nat} (h:1 ≤ E∧E ≤ 4096) (hb:B ≤ 4096):Inv E B []:=⟨h,hb,by simp,by simp,by simp,by simp⟩
theorem Inv.rep {E B:Nat} {N:NL} (h:Inv E B N) (n m:Nat) (vs:NL) (hv:∀ x ∈ vs,x.length ≤ E∧(∀ t ∈ x,t.size ≤ 524288)∧(∀ t ∈ x,B < t.size → x.length=1)):Inv E B (rep N n m vs):=by
  have hm:∀ x ∈ QM.rep N n m vs,x ∈ N ∨ (x ∈ vs∧x ≠ []):=fun x hx=>by
    unfold QM.rep nes at hx
    rcases List.mem_append.1 hx with hx | hx
    · exact Or.inl (List.mem_of_mem_take hx)
    · rcases List.mem_append.1 hx with hx | hx
      · rw [List.mem_filter] at hx; exact Or.inr ⟨hx.1,by simpa using hx.2⟩
      · exact Or.inl (List.mem_of_mem_drop hx)
  refine ⟨h.le,h.lb,fun x hx=>?_,fun x hx=>?_,fun x hx=>?_,fun x hx=>?_⟩
  · rcases hm x hx with hx | hx; exact h.some x hx; exact hx.2
  · rcases hm x hx with hx | hx; exact h.few x hx; exact (hv x hx.1).1
  · rcases hm x hx with hx | hx; exact h.short x hx; exact (hv x hx.1).2.1
  · rcases hm x hx with hx | hx; exact h.alone x hx; exact (hv x hx.1).2.2
theorem len_le {N:NL} (h:∀ x ∈ N,x ≠ []):N.length ≤ N.flatten.length:=by
  induction N with
  | nil=>simp
  | cons x N ih =>
    have:=ih (fun y hy=>h y (by simp [hy]))
    have:=List.length_pos_iff.2 (h x (by simp))
    rw [List.flatten_cons,List.length_append,List.length_cons]; omega
/-! the calls. -/
def room (E B:Nat) (x:List Txt):Bool:=decide (x.length < E) && !lg B x
def big (B:Nat) (s:Txt):Bool:=decide (B < s.size)
def pushB (E B:Nat) (N:NL) (s:Txt):NL:=match N.getLast? with
  | some x=>if big B s=false∧room E B x=true then rep N (N.length - 1) 1 [x ++ [s]] else N ++ [[s]]
  | none=>[[s]]
def pushF (E B:Nat) (N:NL) (s:Txt):NL:=match N with
  | x :: M=>if big B s=false∧room E B x=true then (s :: x) :: M else [s] :: x :: M
  | []=>[[s]]
def push (E B:Nat) (N:NL) (s:Txt) (front:Bool):NL:=if front then pushF E B N s else pushB E B N s
def ins (E B:Nat) (N:NL) (i:Nat) (s:Txt):NL:=
  let n:=(plc N i).1
  let k:=(plc N i).2
  let x:=N.getD n []
  if big B s=true then rep N n 1 [x.take k,[s],x.drop k]
  else if room E B x=true then rep N n 1 [x.take k ++ s :: x.drop k]
  else if k=0∧0 < n∧room E B (N.getD (n - 1) [])=true then rep N (n - 1) 1 [N.getD (n - 1) [] ++ [s]]
  else if k=0 then rep N n 0 [[s]]
  else rep N n 1 [x.take k ++ [s],x.drop k]
def setQ (B:Nat) (N:NL) (i:Nat) (s:Txt):NL:=
  let n:=(plc N i).1
  let k:=(plc N i).2
  let x:=N.getD n []
  if lg B x=true ∨ big B s=true then rep N n 1 [x.take k,[s],x.drop (k + 1)]
  else rep N n 1 [x.set k s]
theorem nes_flat:∀ vs:NL,(nes vs).flatten=vs.flatten
  | []=>rfl
  | y :: vs=>by rw [nes_cons,List.flatten_append,ne_flat,nes_flat vs,List.flatten_cons]
theorem rep_flat (N:NL) (n m:Nat) (vs:NL):(rep N n m vs).flatten=(N.take n).flatten ++ (vs.flatten ++ (N.drop (n + m)).flatten):=by
  unfold rep; rw [List.flatten_append,List.flatten_append,nes_flat]
theorem split_flat (N:NL) (n m:Nat):(N.take n).flatten.length + ((N.drop n).take m).flatten.length + (N.drop (n + m)).flatten.length=N.flatten.length:=by
  have h:N=N.take n ++ ((N.drop n).take m ++ N.drop (n + m)):=by
    rw [← List.drop_drop,List.take_append_drop,List.take_append_drop]
  have:=congrArg (fun M=>(List.flatten M).length) h
  simp only [List.flatten_append,List.length_append] at this
  omega
theorem one_at (N:NL) (n:Nat) (h:n < N.length):((N.drop n).take 1)=[N[n]]:=by
  rw [List.drop_eq_getElem_cons h]; rfl
theorem getD_at (N:NL) (n:Nat) (h:n < N.length):N.getD n []=N[n]:=by simp [List.getD,h]
theorem plc_lt (N:NL) (i:Nat) (h:i < N.flatten.length):∃ hn:(plc N i).1 < N.length,(plc N i).2 < (N[(plc N i).1]).length∧(N.take (plc N i).1).flatten.length + (plc N i).2=i:=by
  obtain ⟨A,x,C,h1,h2,h3,h4⟩:=plc_spec N i h
  have hn:(plc N i).1 < N.length:=by rw [h2,h1]; simp
  refine ⟨hn,?_,?_⟩
  · have:N[(plc N i).1]=x:=by
      have h5:N[(plc N i).1]?=some x:=by rw [h2,h1]; simp
      rw [List.getElem?_eq_getElem hn] at h5; exact Option.some.inj h5
    rw [this]; exact h3
  · rw [h2,h1,List.take_left' rfl]; rw [h1,] at h4; exact h4
theorem room_iff {E B:Nat} {x:List Txt}:room E B x=true ↔ x.length < E∧lg B x=false:=by unfold room; simp
theorem big_iff {B:Nat} {s:Txt}:big B s=false ↔ s.size ≤ B:=by unfold big; simp
theorem Inv.rep_len {N:NL} {n m:Nat} {vs:NL} (k:Nat) (h:vs.flatten.length ≤ ((N.drop n).take m).flatten.length + k):(QM.rep N n m vs).flatten.length ≤ N.flatten.length + k:=by
  have:=split_flat N n m
  rw [rep_flat]; simp only [List.length_append]; omega
structure Good (E B:Nat) (N N':NL):Prop where
  inv:Inv E B N'
  len:N'.flatten.length ≤ N.flatten.length + 1
theorem push_rep (E B:Nat) (N:NL) (s:Txt) (f:Bool):push E B N s f=rep N (if f then 0 else N.length) 0 [[s]] ∨ (∃ n,∃ hn:n < N.length,big B s=false∧room E B N[n]=true∧(n=if f then 0 else N.length - 1)∧push E B N s f=rep N n 1 [if f then s :: N[n] else N[n] ++ [s]]):=by
  unfold push
  cases f with
  | true =>
    rw [if_pos rfl]
    cases N with
    | nil=>left; rfl
    | cons x M =>
      simp only [pushF]
      by_cases hc:big B s=false∧room E B x=true
      · rw [if_pos hc]; right; refine ⟨0,by simp,hc.1,hc.2,rfl,?_⟩
        simp [rep,nes]
      · rw [if_neg hc]; left; simp [rep,nes]
  | false =>
    rw [if_neg (by simp)]
    unfold pushB
    cases hN:N.getLast? with
    | none=>left; rw [List.getLast?_eq_none_iff] at hN; subst hN; rfl
    | some x =>
      simp only
      rw [List.getLast?_eq_getElem?] at hN
      obtain ⟨h1,h2⟩:=List.getElem?_eq_some_iff.1 hN
      by_cases hc:big B s=false∧room E B x=true
      · rw [if_pos hc]; right; refine ⟨N.length - 1,h1,hc.1,by rw [h2]; exact hc.2,rfl,?_⟩
        simp [h2]
      · rw [if_neg hc]; left; simp [rep,nes]
theorem wider {E B:Nat} {N:NL} (h:Inv E B N) {x:List Txt} (hx:x ∈ N) (hr:room E B x=true) {s:Txt} (hb:big B s=false) (hs:s.size ≤ 524288) {y:List Txt} (hl:y.length=x.length + 1) (hm:∀ t ∈ y,t ∈ x ∨ t=s):y.length ≤ E∧(∀ t ∈ y,t.size ≤ 524288)∧(∀ t ∈ y,B < t.size → y.length=1):=by
  rw [room_iff] at hr
  have hn:=lg_not h hx hr.2
  rw [big_iff] at hb
  refine ⟨by omega,fun t ht=>?_,fun t ht hbt=>?_⟩
  · rcases hm t ht with h1 | rfl; exact h.short x hx t h1; exact hs
  · rcases hm t ht with h1 | rfl; have:=hn t h1; omega; omega
theorem single {E B:Nat} {N:NL} (h:Inv E B N) {s:Txt} (hs:s.size ≤ 524288):([s]:List Txt).length ≤ E∧(∀ t ∈ [s],t.size ≤ 524288)∧(∀ t ∈ [s],B < t.size → ([s]:List Txt).length=1):=by
  refine ⟨by have:=h.le; simp; omega,fun t ht=>?_,fun _ _ _=>rfl⟩
  simp at ht; subst ht; exact hs
theorem push_good {E B:Nat} {N:NL} (h:Inv E B N) (s:Txt) (hs:s.size ≤ 524288) (f:Bool):Good E B N (push E B N s f):=by
  rcases push_rep E B N s f with e | ⟨n,hn,hb,hr,_,e⟩
  · rw [e]
    refine ⟨h.rep _ _ _ (fun x hx=>?_),Inv.rep_len 1 (by simp)⟩
    rw [List.mem_singleton] at hx; subst hx; exact single h hs
  · rw [e]
    refine ⟨h.rep _ _ _ (fun x hx=>?_),Inv.rep_len 1 (by rw [one_at N n hn]; cases f <;> simp)⟩
    rw [List.mem_singleton] at hx; subst hx
    refine wider h (List.getElem_mem hn) hr hb hs (by cases f <;> simp) (fun t ht=>?_)
    cases f with
    | true=>simp at ht; rcases ht with rfl | ht; exact Or.inr rfl; exact Or.inl ht
    | false=>simp at ht; rcases ht with ht | rfl; exact Or.inl ht; exact Or.inr rfl
end Go.Proofs.YtijambehfobopaaGreatDoor.QM
namespace Go.Proofs.YtijambehfobopaaGreatDoor
open Go.RowKit
set_option linter.unusedVariables false
set_option linter.unusedSimpArgs false
/-! rows of cells that are written into. -/
def spl (cur:Array Value) (o:Nat) (vs:List Value):Array Value:=(cur.toList.take o ++ (vs ++ cur.toList.drop (o + vs.length))).toArray
theorem spl_size (cur:Array Value) (o:Nat) (vs:List Value) (h:o + vs.length ≤ cur.size):(spl cur o vs).size=cur.size:=by
  unfold spl; simp; omega
theorem spl_nil (cur:Array Value) (o:Nat):spl cur o []=cur:=by unfold spl; simp
theorem take_set_one {l:List Value} {o:Nat} {v:Value} (h:o < l.length):(l.set o v).take (o + 1)=l.take o ++ [v]:=by
  rw [List.take_add_one,List.getElem?_set_self h,List.take_set_of_le (Nat.le_refl o)]; rfl
theorem spl_cons (cur:Array Value) (o:Nat) (v:Value) (vs:List Value) (h:o + (vs.length + 1) ≤ cur.size):spl (cur.setIfInBounds o v) (o + 1) vs=spl cur o (v :: vs):=by
  unfold spl
  congr 1
  have ho:o < cur.toList.length:=by simp; omega
  rw [Array.toList_setIfInBounds,take_set_one ho,List.drop_set_of_lt (by omega)]
  simp [Nat.add_assoc,Nat.add_comm 1]
theorem heap_cells (E T:Nat):∀ (vs:List Value) (o:Nat) (w:World) (cur:Array Value),w.heap[E]?=some (.cells cur T) → o + vs.length ≤ cur.size → (w.setCells E o vs).heap[E]?=some (.cells (spl cur o vs) T)
  | [],o,w,cur,h,_=>by rw [spl_nil]; exact h
  | v :: r,o,w,cur,h,hl=>by
    simp only [List.length_cons] at hl
    rw [World.setCells,heap_cells E T r (o + 1) _ _ (heap_setCell_same _ _ _ _ _ _ h) (by simp; omega),spl_cons cur o v r (by omega)]
theorem grown_cells (E:Nat):∀ (vs:List Value) (o:Nat) (w:World),w.grownBy (w.setCells E o vs) (some E)
  | [],_,w=>World.grownBy.refl w _
  | v :: r,o,w=>by
    have ih:=grown_cells E r (o + 1) (w.setCell ⟨E,o,none⟩ v)
    refine ⟨ih.os,ih.tape,ih.output,by have:=ih.size; rw [World.size_setCell] at this; exact this,fun k hk hne=>?_⟩
    rw [World.setCells]
    rw [ih.block k (by rw [World.size_setCell]; exact hk) hne]
    exact heap_setCell_other _ _ _ _ (fun e=>hne (by rw [e]))
theorem grown_trans {a b c:World} {r:Option Nat} (h1:a.grownBy b r) (h2:b.grownBy c r):a.grownBy c r:=
  ⟨h2.os.trans h1.os,h2.tape.trans h1.tape,h2.output.trans h1.output,Nat.le_trans h1.size h2.size,fun k hk hne=>(h2.block k (Nat.lt_of_lt_of_le hk h1.size) hne).trans (h1.block k hk hne)⟩
theorem grown_drew (w:World) (r:Option Nat):w.grownBy w.drew r:=⟨rfl,rfl,rfl,Nat.le_refl _,fun _ _ _=>rfl⟩
theorem grown_wide {w w':World} {r:Option Nat} (h:w.grownBy w' none):w.grownBy w' r:=⟨h.os,h.tape,h.output,h.size,fun k hk _=>h.block k hk (by simp)⟩
theorem spl_take (cur:Array Value) (o k:Nat) (vs:List Value) (hk:k ≤ o) (ho:o ≤ cur.size):(spl cur o vs).toList.take k=cur.toList.take k:=by
  unfold spl
  rw [List.toList_toArray,List.take_append_of_le_length (by simp; omega),List.take_take]; congr 1; omega
abbrev Nd:=ByteArray × Nat × Bool
def ndC (n:Nd):List Value:=[.string n.1,.int .i64 (n.2.1:Int),.bool n.2.2]
def flatN (ns:List Nd):List Value:=ns.flatMap ndC
theorem flatN_cons (n:Nd) (ns:List Nd):flatN (n :: ns)=ndC n ++ flatN ns:=rfl
theorem flatN_app (a b:List Nd):flatN (a ++ b)=flatN a ++ flatN b:=by simp [flatN]
theorem flatN_len:∀ ns:List Nd,(flatN ns).length=ns.length * 3
  | []=>rfl
  | n :: ns=>by rw [flatN_cons,List.length_append,flatN_len ns]; simp [ndC]; omega
theorem flatN_take (ns:List Nd) (i:Nat) (h:i ≤ ns.length):flatN (ns.take i)=(flatN ns).take (i * 3):=by
  conv=>rhs; rw [← List.take_append_drop i ns,flatN_app]
  rw [List.take_left' (by rw [flatN_len,List.length_take]; omega)]
theorem flatN_drop (ns:List Nd) (i:Nat) (h:i ≤ ns.length):flatN (ns.drop i)=(flatN ns).drop (i * 3):=by
  conv=>rhs; rw [← List.take_append_drop i ns,flatN_app]
  rw [List.drop_left' (by rw [flatN_len,List.length_take]; omega)]
theorem flatN_one (ns:List Nd):∀ v ∈ flatN ns,v.oneCell'=true:=by
  intro v hv
  obtain ⟨n,_,hn⟩:=List.mem_flatMap.1 hv
  simp [ndC] at hn; rcases hn with rfl | rfl | rfl <;> rfl
theorem flatN_at (ns:List Nd) (t:Nat) (h:t < ns.length):(flatN ns)[t * 3]?=some (.string ns[t].1)∧(flatN ns)[t * 3 + 1]?=some (.int .i64 (ns[t].2.1:Int))∧(flatN ns)[t * 3 + 2]?=some (.bool ns[t].2.2):=by
  have e:flatN ns=flatN (ns.take t) ++ (ndC ns[t] ++ flatN (ns.drop (t + 1))):=by
    rw [← flatN_cons,← flatN_app,← List.drop_eq_getElem_cons h,List.take_append_drop]
  have hl:(flatN (ns.take t)).length=t * 3:=by rw [flatN_len,List.length_take]; omega
  rw [e]
  refine ⟨?_,?_,?_⟩ <;> rw [List.getElem?_append_right (by omega),hl] <;> simp [ndC]
structure NX (W:World) (E c:Nat) (ns:List Nd):Prop where
  row:∃ cur,W.heap[E]?=some (.cells cur 55)∧cur.size=c * 3∧cur.toList.take (ns.length * 3)=flatN ns
  le:ns.length ≤ c
  max:c ≤ maxLen
theorem NX.lt {W:World} {E c:Nat} {ns:List Nd} (h:NX W E c ns):E < W.heap.size:=by obtain ⟨cur,h1,_⟩:=h.row; exact row_lt h1
theorem NX.same {W W':World} {E c:Nat} {ns:List Nd} (h:NX W E c ns) (hb:W'.heap[E]?=W.heap[E]?):NX W' E c ns:=by
  obtain ⟨cur,h1,h2⟩:=h.row
  exact ⟨⟨cur,hb.trans h1,h2⟩,h.le,h.max⟩
theorem NX.on {W W':World} {E c:Nat} {ns:List Nd} (h:NX W E c ns) (hb:Below W.heap.size W W'):NX W' E c ns:=h.same (hb.block E h.lt)
theorem NX.cellAt {W:World} {E c:Nat} {ns:List Nd} (h:NX W E c ns) (j:Nat) (v:Value) (hj:(flatN ns)[j]?=some v):W.cell? ⟨E,j,none⟩=some v:=by
  obtain ⟨cur,h1,h2,h3⟩:=h.row
  have hl:=(List.getElem?_eq_some_iff.1 hj).1
  rw [flatN_len] at hl
  rw [cell_of_row _ _ _ _ _ _ h1,← Array.getElem?_toList,← List.getElem?_take_of_lt hl,h3,hj]
theorem NX.cells {W:World} {E c:Nat} {ns:List Nd} (h:NX W E c ns) (t:Nat) (ht:t < ns.length):W.cell? ⟨E,t * 3,none⟩=some (.string ns[t].1)∧W.cell? ⟨E,t * 3 + 1,none⟩=some (.int .i64 (ns[t].2.1:Int))∧W.cell? ⟨E,t * 3 + 2,none⟩=some (.bool ns[t].2.2):=
  ⟨h.cellAt _ _ (flatN_at ns t ht).1,h.cellAt _ _ (flatN_at ns t ht).2.1,h.cellAt _ _ (flatN_at ns t ht).2.2⟩
def NV (W:World) (b0:Nat) (v:Value) (ns:List Nd):Prop:=(v=.slice none 0 0∧ns=[]) ∨ ∃ E c,v=.slice (some ⟨E,0,none⟩) ns.length c∧b0 ≤ E∧NX W E c ns
theorem NX.own {W:World} {E c b0:Nat} {ns:List Nd} (h:NX W E c ns) (hb:b0 ≤ E):W.ownsRow b0 55 3 (.slice (some ⟨E,0,none⟩) ns.length c) ns.length (flatN ns):=by
  obtain ⟨cur,h1,h2,h3⟩:=h.row
  exact ⟨flatN_len ns,Or.inr ⟨E,c,cur,rfl,hb,h1,h.le,h.max,h2,h3⟩⟩
theorem NX.ownTake {W:World} {E c b0:Nat} {ns:List Nd} (h:NX W E c ns) (hb:b0 ≤ E) (i:Nat) (hi:i ≤ ns.length):W.ownsRow b0 55 3 (.slice (some ⟨E,0,none⟩) i c) i (flatN (ns.take i)):=by
  obtain ⟨cur,h1,h2,h3⟩:=h.row
  have hle:=h.le
  refine ⟨by rw [flatN_len,List.length_take]; congr 1; omega,Or.inr ⟨E,c,cur,rfl,hb,h1,by omega,h.max,h2,?_⟩⟩
  rw [flatN_take ns i hi,← h3,List.take_take]; congr 1; omega
theorem NX.of {W:World} {b0 n:Nat} {v:Value} {ns:List Nd} (h:W.ownsRow b0 55 3 v n (flatN ns)) (hn:n=ns.length):(v=.slice none 0 0∧ns=[]) ∨ ∃ E c,v=.slice (some ⟨E,0,none⟩) ns.length c∧b0 ≤ E∧NX W E c ns:=by
  subst hn
  obtain ⟨_,⟨h1,h2⟩ | ⟨g,cap,cur,h1,hb,hg,q1,q2,q3,q4⟩⟩:=h
  · exact Or.inl ⟨h1,List.length_eq_zero_iff.1 h2⟩
  · exact Or.inr ⟨g,cap,h1,hb,⟨cur,hg,q3,q4⟩,q1,q2⟩
structure NBec (w w':World) (b0:Nat) (v v':Value) (ns':List Nd):Prop where
  now:NV w' b0 v' ns'
  grown:w.grownBy w' v.ownBlock
  blk:∀ E,v'.ownBlock=some E → v.ownBlock=some E ∨ w.heap.size ≤ E
theorem infoN:(Tryz.prog.info? 55).map (fun i=>(i.zero,i.size,i.bytes))=some (some (.agg #[.string ⟨#[]⟩,.int .i64 0,.bool false]),3,32):=by kernel_rfl
theorem run_copy3 (w:World) (ty:TypeId) (b o dLen dCap:Nat) (a:Addr) (sLen sCap:Nat) (cs:List Value) (hn:cs.length=Nat.min sLen dLen * 3)
    (hsrc:∀ j v,cs[j]?=some v → w.cell? (a.add j)=some v) (hc:∀ j,j < cs.length → (w.cell? ⟨b,o + j,none⟩).isSome=true) (hf:∀ j,j < cs.length → w.frozen? ⟨b,o + j,none⟩=false) (h1:∀ v ∈ cs,v.oneCell'=true) :
    (Builtin.copy_ #[67,67] ty #[.slice (some ⟨b,o,none⟩) dLen dCap,.slice (some a) sLen sCap]).run Tryz.prog w=.ok (goInt (Nat.min sLen dLen)) (w.setCells b o cs):=by
  obtain ⟨i0,hi,hz0,hz1,hz2⟩:=info_parts infoN
  have hl:=run_loadCells_list (P:=Tryz.prog) w a cs hsrc
  have hst:=run_storeCells_cells (P:=Tryz.prog) b o cs 0 w (by simpa using hc) (by simpa using hf) h1
  simp [Builtin.copy_,run_underlying Tryz.underlying67,Builtin.lenOf,Builtin.firstCells,sizeOf,typeInfo,hi,hz1,← hn,hl,hst]
theorem sizeN (w:World):(Go.sizeOf 55).run Tryz.prog w=.ok 3 w:=by
  obtain ⟨i0,hi,hz0,hz1,hz2⟩:=info_parts infoN
  simp [sizeOf,typeInfo,hi,hz1,go_sem]
theorem shape_row {w:World} {g T:Nat} {cur:Array Value} (h:w.heap[g]?=some (.cells cur T)):w.shape? g=some (T,cur.size):=by
  simp [World.shape?,h]
theorem overlaps_no (w:World) (X E la ca lb cb:Nat) (p o:Nat) (hne:X ≠ E) (cx ce:Array Value) (hX:w.heap[X]?=some (.cells cx 55)) (hE:w.heap[E]?=some (.cells ce 55)) (hce:ce.size ≠ 0) :
    (callFunc 92 #[.slice (some ⟨X,p,none⟩) la ca,.slice (some ⟨E,o,none⟩) lb cb]).run Tryz.prog w=.ok (.value (.bool false)) w:=by
  rw [run_callFunc_extern Tryz.func92 (by kernel_rfl) (by kernel_rfl) (by kernel_rfl) (e:=Extern.SlicesOverlaps.overlaps #[67,67] #[4]) (by kernel_rfl),
    Lib.run_overlaps_apart w 67 4 55 Tryz.underlying67 3 sizeN ⟨X,p,none⟩ ⟨E,o,none⟩ la ca lb cb hne 55 55 cx.size ce.size (shape_row hX) (shape_row hE) hce (frozen_of_row _ _ _ _ _ hX) (frozen_of_row _ _ _ _ _ hX)]
  rfl
def zeroN (k:Nat):List Value:=(Builtin.zeroCells #[.string ⟨#[]⟩,.int .i64 0,.bool false] k).toList
theorem zeroN_len (k:Nat):(zeroN k).length=k * 3:=by unfold zeroN; simp [Builtin.zeroCells]
theorem zeroN_one (k:Nat):∀ v ∈ zeroN k,v.oneCell'=true:=by
  intro v hv
  unfold zeroN Builtin.zeroCells at hv
  simp at hv
  obtain ⟨i,_,rfl⟩:=hv
  have h3:i % 3=0 ∨ i % 3=1 ∨ i % 3=2:=by omega
  rcases h3 with h | h | h <;> rw [h] <;> rfl
theorem run_clrN (E o k c:Nat) (ty:TypeId) (W:World) (cur:Array Value) (hE:W.heap[E]?=some (.cells cur 55)) (ho:o + k * 3 ≤ cur.size) :
    Sem.run Tryz.prog (Builtin.clear_ #[67] ty #[.slice (some ⟨E,o,none⟩) k c]) W=.ok (.tuple #[]) (W.setCells E o (zeroN k)):=by
  obtain ⟨i0,hi,hz0,hz1,hz2⟩:=info_parts infoN
  have hst:=run_storeCells_cells (P:=Tryz.prog) E o (zeroN k) 0 W (fun j hj=>by rw [zeroN_len] at hj; rw [cell_of_row _ _ _ _ _ _ hE,Array.getElem?_eq_getElem (by omega)]; rfl) (fun j hj=>frozen_of_row _ _ _ _ _ hE) (zeroN_one _)
  simp only [Nat.add_zero] at hst
  cases k with
  | zero =>
    have hz:zeroN 0=[]:=by unfold zeroN Builtin.zeroCells; simp
    rw [hz]
    simp only [Builtin.clear_]
    simp [go_sem]
    rfl
  | succ k =>
    unfold zeroN at hst ⊢
    simp only [Builtin.clear_]
    simp [go_sem]
    rw [hst]
    rfl
end Go.Proofs.YtijambehfobopaaGreatDoor
namespace Go.Proofs.YtijambehfobopaaGreatDoor
open Go.RowKit
set_option linter.unusedVariables false
structure VX (W:World) (X:Nat) (vs:List Nd):Prop where
  row:∃ cur,W.heap[X]?=some (.cells cur 55)∧cur.toList.take (vs.length * 3)=flatN vs∧vs.length * 3 ≤ cur.size∧cur.size ≠ 0
theorem VX.cells {W:World} {X:Nat} {vs:List Nd} (h:VX W X vs):∀ j u,(flatN vs)[j]?=some u → W.cell? ((⟨X,0,none⟩:Addr).add j)=some u:=fun j u hj=>by
  obtain ⟨cur,h1,h2,h3,_⟩:=h.row
  have hl:=(List.getElem?_eq_some_iff.1 hj).1
  rw [flatN_len] at hl
  rw [Addr.add_lit,Nat.zero_add,cell_of_row _ _ _ _ _ _ h1,← Array.getElem?_toList,← List.getElem?_take_of_lt hl,h2,hj]
theorem VX.same {W W':World} {X:Nat} {vs:List Nd} (h:VX W X vs) (hb:W'.heap[X]?=W.heap[X]?):VX W' X vs:=by
  obtain ⟨cur,h1,h2⟩:=h.row
  exact ⟨⟨cur,hb.trans h1,h2⟩⟩
theorem VX.lt {W:World} {X:Nat} {vs:List Nd} (h:VX W X vs):X < W.heap.size:=by obtain ⟨cur,h1,_⟩:=h.row; exact row_lt h1
theorem NX.clr {W:World} {E c k o:Nat} {ns:List Nd} (h:NX W E c ns) (ho:ns.length * 3 ≤ o) (hk:o + k * 3 ≤ c * 3):NX (W.setCells E o (zeroN k)) E c ns:=by
  obtain ⟨cur,h1,h2,h3⟩:=h.row
  refine ⟨⟨_,heap_cells E _ (zeroN k) o W cur h1 (by rw [zeroN_len]; omega),by rw [spl_size _ _ _ (by rw [zeroN_len]; omega)]; exact h2,?_⟩,h.le,h.max⟩
  rw [spl_take _ _ _ _ ho (by omega)]; exact h3
set_option maxHeartbeats 4000000 in
set_option maxRecDepth 100000 in
theorem repl_end (b0 X i vc:Nat) (vs:List Nd) (hvs:vs.length ≤ 3) (E c:Nat) (ns:List Nd) (hl:ns.length ≤ 1073741824) (w:World) (hb0:b0 ≤ w.heap.size) (hbE:b0 ≤ E) (hB:NX w E c ns) (hi:i < ns.length) (hX:VX w X vs) (hXE:X ≠ E) :
    Calls Tryz.prog 54 #[.slice (some ⟨E,0,none⟩) ns.length c,.int .i64 (i:Int),.int .i64 (ns.length:Int),.slice (some ⟨X,0,none⟩) vs.length vc] w fun r w'=>∃ v',r=.returned v'∧NBec w w' b0 (.slice (some ⟨E,0,none⟩) ns.length c) v' (ns.take i ++ vs):=by
  obtain ⟨i0,hi0,hz0,hz1,hz2⟩:=info_parts infoN
  have HN:Hid _:=hX.cells
  have HFL:Hid (flatN (ns.take i) ++ flatN vs=flatN (ns.take i ++ vs)):=(flatN_app _ _).symm
  have HLN:Hid ((ns.take i ++ vs).length=i + vs.length):=by show _=_; rw [List.length_append,List.length_take]; omega
  have HOW:Hid _:=hB.ownTake hbE i (by omega)
  have hle:=hB.le
  have hmx:=hB.max
  have h1c:∀ v ∈ flatN vs,v.oneCell'=true:=flatN_one vs
  by_cases hroom:i + vs.length ≤ c
  · by_cases hclr:i + vs.length < ns.length
    · have hcq:¬ (c=i + vs.length):=by omega
      have hz:(((i + vs.length:Nat):Int) < (ns.length:Int)):=by omega
      obtain ⟨q,hq⟩:∃ q,i + vs.length=q:=⟨_,rfl⟩
      obtain ⟨k,hk⟩:∃ k,ns.length - q=k:=⟨_,rfl⟩
      have HLQ:Hid ((ns.take i ++ vs).length=q):=by show _=_; rw [HLN.out,hq]
      have hq3:q ≤ 1073741827:=by omega
      have hqc:(q:Int) ≤ (c:Int):=by omega
      have hqn:(q:Int) ≤ (ns.length:Int):=by omega
      have hcq2:¬ (c=q):=by omega
      have hz2':((q:Int) < (ns.length:Int)):=by omega
      clear hX hB hz hcq
      go_enter Tryz.func54,Tryz.ntmps54
      go_upto_region 5 with fail
      go_wp2_with (at_builtin; go_must (refine wpList_append_fits w rfl _ _ 67 rfl b0 55 i0 3 Tryz.underlying67 hi0 hz1 E i c (flatN (ns.take i)) rfl HOW.out ⟨X,0,none⟩ vs.length vc (flatN vs) rfl (flatN_len vs) HN.out h1c hroom ?_))
      intro w1 hown hgr
      rw [HFL.out] at hown
      rcases NX.of hown HLQ.out.symm with ⟨h',_⟩ | ⟨E',c',hv',hE',hN⟩
      · cases h'
      injection hv' with e1 e2 e3
      injection e1 with e1
      injection e1 with e1 _ _
      subst e1; subst e3
      have HNX:Hid (NX w1 E c (ns.take i ++ vs)):=hN
      obtain ⟨cur,r1,r2,r3⟩:=hN.row
      have hcl:∀ ty cc,Sem.run Tryz.prog (Builtin.clear_ #[67] ty #[.slice (some ⟨E,q * 3,none⟩) k cc]) w1=.ok (.tuple #[]) (w1.setCells E (q * 3) (zeroN k)):=fun ty cc=>run_clrN E (q * 3) k cc ty w1 cur r1 (by omega)
      have HR:Hid (NBec w (w1.setCells E (q * 3) (zeroN k)) b0 (.slice (some ⟨E,0,none⟩) ns.length c) (.slice (some ⟨E,0,none⟩) q c) (ns.take i ++ vs)):=by
        refine ⟨Or.inr ⟨E,c,by rw [HLN.out,hq],hbE,hN.clr (by rw [HLN.out]; omega) (by omega)⟩,grown_trans hgr (grown_cells E _ _ _),fun E' h=>Or.inl (by simpa [Value.ownBlock] using h)⟩
      clear hown hgr hN r1 r2 r3 e2 hE' hq HNX hroom hclr
      go_wp2
      go_returns
      exact ⟨_,rfl,HR.out⟩
    · have hz:¬ (((i + vs.length:Nat):Int) < (ns.length:Int)):=by omega
      obtain ⟨q,hq⟩:∃ q,i + vs.length=q:=⟨_,rfl⟩
      have HLQ:Hid ((ns.take i ++ vs).length=q):=by show _=_; rw [HLN.out,hq]
      have hq3:q ≤ 1073741827:=by omega
      have hqn:(ns.length:Int) ≤ (q:Int):=by omega
      clear hX hB hz
      go_enter Tryz.func54,Tryz.ntmps54
      go_upto_region 5 with fail
      go_wp2_with (at_builtin; go_must (refine wpList_append_fits w rfl _ _ 67 rfl b0 55 i0 3 Tryz.underlying67 hi0 hz1 E i c (flatN (ns.take i)) rfl HOW.out ⟨X,0,none⟩ vs.length vc (flatN vs) rfl (flatN_len vs) HN.out h1c hroom ?_))
      intro w1 hown hgr
      rw [HFL.out] at hown
      rcases NX.of hown HLQ.out.symm with ⟨h',_⟩ | ⟨E',c',hv',hE',hN⟩
      · cases h'
      injection hv' with e1 e2 e3
      injection e1 with e1
      injection e1 with e1 _ _
      subst e1; subst e3
      have HR:Hid (NBec w w1 b0 (.slice (some ⟨E,0,none⟩) ns.length c) (.slice (some ⟨E,0,none⟩) q c) (ns.take i ++ vs)):=by
        refine ⟨Or.inr ⟨E,c,by rw [HLN.out,hq],hbE,hN⟩,hgr,fun E' h=>Or.inl (by simpa [Value.ownBlock] using h)⟩
      clear hown hgr hN e2 hE' hq hroom hclr
      go_wp2
      go_returns
      exact ⟨_,rfl,HR.out⟩
  · have HOL:Hid (∀ b,some (⟨E,0,none⟩:Addr)=some b → ∀ j u,(flatN (ns.take i))[j]?=some u → w.cell? (b.add j)=some u):=fun b hb j u hj=>by
      cases hb; exact World.ownsRow.cells HOW.out (g:=E) rfl j u hj
    have hfi:(flatN (ns.take i)).length=i * 3:=by rw [flatN_len,List.length_take]; congr 1; omega
    obtain ⟨q,hq⟩:∃ q,i + vs.length=q:=⟨_,rfl⟩
    have HLQ:Hid ((ns.take i ++ vs).length=q):=by show _=_; rw [HLN.out,hq]
    have hq3:q ≤ 1073741827:=by omega
    have hqn:(ns.length:Int) ≤ (q:Int):=by omega
    clear hX hB
    go_enter Tryz.func54,Tryz.ntmps54
    go_upto_region 5 with fail
    go_wp2_with (at_builtin; go_must (refine wpList_append_grows _ rfl _ _ 67 rfl 55 i0 (.agg #[.string ⟨#[]⟩,.int .i64 0,.bool false]) 3 32 Tryz.underlying67 hi0 hz0 hz1 hz2 rfl (by decide) (some ⟨E,0,none⟩) i c (flatN (ns.take i)) rfl (fun h=>by cases h) hfi HOL.out ⟨X,0,none⟩ vs.length vc (flatN vs) rfl (flatN_len vs) HN.out h1c (by omega) (by unfold maxLen; omega) (by omega) ?_))
    intro v' w1 hown hgr
    rw [HFL.out] at hown
    have hne:¬ (ns.take i ++ vs=[]):=by intro e; have:=HLQ.out; rw [e] at this; simp at this; omega
    rcases NX.of hown HLQ.out.symm with ⟨_,h'⟩ | ⟨E',c',rfl,hE',hN⟩
    · exact absurd h' hne
    have HR:Hid (NBec w w1 b0 (.slice (some ⟨E,0,none⟩) ns.length c) (.slice (some ⟨E',0,none⟩) q c') (ns.take i ++ vs)):=by
      refine ⟨Or.inr ⟨E',c',by rw [HLN.out,hq],by omega,hN⟩,grown_wide hgr,fun E2 h=>by right; simp [Value.ownBlock] at h; omega⟩
    rw [HLQ.out]
    clear hown hgr hN hE' hq hroom hne
    go_wp2
    go_returns
    exact ⟨_,rfl,HR.out⟩
end Go.Proofs.YtijambehfobopaaGreatDoor
namespace Go.Proofs.YtijambehfobopaaGreatDoor
open Go.RowKit
set_option linter.unusedVariables false
abbrev rplN (ns:List Nd) (i j:Nat) (vs:List Nd):List Nd:=ns.take i ++ (vs ++ ns.drop j)
theorem rplN_len (ns:List Nd) (i j:Nat) (vs:List Nd) (h:i ≤ j) (hj:j ≤ ns.length):(rplN ns i j vs).length=i + vs.length + (ns.length - j):=by
  unfold rplN; simp only [List.length_append,List.length_take,List.length_drop]; omega
theorem rplN_flat (ns:List Nd) (i j:Nat) (vs:List Nd) (h:i ≤ j) (hj:j ≤ ns.length):flatN (rplN ns i j vs)=(flatN ns).take (i * 3) ++ (flatN vs ++ (flatN ns).drop (j * 3)):=by
  unfold rplN; rw [flatN_app,flatN_app,flatN_take ns i (by omega),flatN_drop ns j hj]
theorem spl_take2 (cur:Array Value) (o:Nat) (vs:List Value) (ho:o ≤ cur.size):(spl cur o vs).toList.take (o + vs.length)=cur.toList.take o ++ vs:=by
  unfold spl
  have hl:(cur.toList.take o).length=o:=by simp; omega
  rw [← List.append_assoc,List.take_left' (by rw [List.length_append,hl])]
theorem spl_take3 (cur:Array Value) (o k:Nat) (vs:List Value) (hk:o + vs.length ≤ k) (ho:k ≤ cur.size):(spl cur o vs).toList.take k=cur.toList.take o ++ (vs ++ (cur.toList.take k).drop (o + vs.length)):=by
  unfold spl
  have hl:(cur.toList.take o).length=o:=by simp; omega
  obtain ⟨d,rfl⟩:∃ d,k=o + (vs.length + d):=⟨k - o - vs.length,by omega⟩
  have h1:∀ (a b r:List Value),(a ++ (b ++ r)).take (a.length + (b.length + d))=a ++ (b ++ r.take d):=fun a b r=>by
    rw [List.take_length_add_append,List.take_length_add_append]
  have:=h1 (cur.toList.take o) vs (cur.toList.drop (o + vs.length))
  rw [hl] at this
  rw [this,List.take_drop,Nat.add_assoc]
theorem NX.takes {w:World} {E c i:Nat} {ns:List Nd} {cur:Array Value} (h3:cur.toList.take (ns.length * 3)=flatN ns) (hi:i ≤ ns.length):cur.toList.take (i * 3)=(flatN ns).take (i * 3):=by
  rw [← h3,List.take_take]; congr 1; omega
theorem NX.shrink {w:World} {E c i j:Nat} {ns vs:List Nd} (h:NX w E c ns) (hi:i + vs.length ≤ j) (hj:j ≤ ns.length) :
    NX ((w.setCells E (i * 3) (flatN vs)).drew.setCells E ((i + vs.length) * 3) (flatN (ns.drop j))) E c (rplN ns i j vs)∧w.grownBy ((w.setCells E (i * 3) (flatN vs)).drew.setCells E ((i + vs.length) * 3) (flatN (ns.drop j))) (some E):=by
  obtain ⟨cur,h1,h2,h3⟩:=h.row
  have hle:=h.le
  have e1:=heap_cells E _ (flatN vs) (i * 3) w cur h1 (by rw [flatN_len]; omega)
  have e1d:(w.setCells E (i * 3) (flatN vs)).drew.heap[E]?=_:=e1
  have s1:=spl_size cur (i * 3) (flatN vs) (by rw [flatN_len]; omega)
  have hd:(flatN (ns.drop j)).length=(ns.length - j) * 3:=by rw [flatN_len,List.length_drop]
  have e2:=heap_cells E _ (flatN (ns.drop j)) ((i + vs.length) * 3) _ _ e1d (by rw [s1,hd]; omega)
  have hrl:=rplN_len ns i j vs (by omega) hj
  refine ⟨⟨⟨_,e2,by rw [spl_size _ _ _ (by rw [s1,hd]; omega),s1,h2],?_⟩,by rw [hrl]; omega,h.max⟩,grown_trans (grown_trans (grown_cells E _ _ _) (grown_drew _ _)) (grown_cells E _ _ _)⟩
  rw [rplN_flat ns i j vs (by omega) hj,show (rplN ns i j vs).length * 3=(i + vs.length) * 3 + (flatN (ns.drop j)).length by rw [hrl,hd]; omega,spl_take2 _ _ _ (by rw [s1]; omega),show (i + vs.length) * 3=i * 3 + (flatN vs).length by rw [flatN_len]; omega,spl_take2 _ _ _ (by omega),flatN_drop ns j hj,NX.takes (w:=w) (E:=E) (c:=c) h3 (by omega),List.append_assoc]
theorem NX.widen {w:World} {E c i j:Nat} {ns vs:List Nd} (h:NX w E c ns) (hij:i ≤ j) (hj:j ≤ ns.length) (hroom:i + vs.length + (ns.length - j) ≤ c) :
    NX ((w.drew.setCells E ((i + vs.length) * 3) (flatN (ns.drop j))).setCells E (i * 3) (flatN vs)) E c (rplN ns i j vs)∧w.grownBy ((w.drew.setCells E ((i + vs.length) * 3) (flatN (ns.drop j))).setCells E (i * 3) (flatN vs)) (some E):=by
  obtain ⟨cur,h1,h2,h3⟩:=h.row
  have hle:=h.le
  have h1d:w.drew.heap[E]?=some (.cells cur 55):=h1
  have hd:(flatN (ns.drop j)).length=(ns.length - j) * 3:=by rw [flatN_len,List.length_drop]
  have e1:=heap_cells E _ (flatN (ns.drop j)) ((i + vs.length) * 3) w.drew cur h1d (by rw [hd]; omega)
  have s1:=spl_size cur ((i + vs.length) * 3) (flatN (ns.drop j)) (by rw [hd]; omega)
  have hv:=flatN_len vs
  have e2:=heap_cells E _ (flatN vs) (i * 3) _ _ e1 (by rw [s1,hv]; omega)
  have hrl:=rplN_len ns i j vs (by omega) hj
  refine ⟨⟨⟨_,e2,by rw [spl_size _ _ _ (by rw [s1,hv]; omega),s1,h2],?_⟩,by rw [hrl]; omega,h.max⟩,grown_trans (grown_trans (grown_drew _ _) (grown_cells E _ _ _)) (grown_cells E _ _ _)⟩
  rw [rplN_flat ns i j vs (by omega) hj,hrl,spl_take3 _ _ _ _ (by rw [hv]; omega) (by rw [s1]; omega)]
  rw [spl_take _ _ _ _ (by omega) (by omega),show (i + vs.length + (ns.length - j)) * 3=(i + vs.length) * 3 + (flatN (ns.drop j)).length by rw [hd]; omega,spl_take2 _ _ _ (by omega),hv,show i * 3 + vs.length * 3=(i + vs.length) * 3 by omega,List.drop_left' (by simp; omega),NX.takes (w:=w) (E:=E) (c:=c) h3 (by omega),flatN_drop ns j hj]
theorem NX.fill {W:World} {E c i j:Nat} {ns vs:List Nd} {cur:Array Value} (h1:W.heap[E]?=some (.cells cur 55)) (h2:cur.size=c * 3) (hmax:c ≤ maxLen) (h3:cur.toList.take (i * 3)=flatN (ns.take i)) (hij:i ≤ j) (hj:j ≤ ns.length) (hroom:i + vs.length + (ns.length - j) ≤ c) :
    NX ((W.setCells E (i * 3) (flatN vs)).drew.setCells E ((i + vs.length) * 3) (flatN (ns.drop j))) E c (rplN ns i j vs)∧W.grownBy ((W.setCells E (i * 3) (flatN vs)).drew.setCells E ((i + vs.length) * 3) (flatN (ns.drop j))) (some E):=by
  have hv:=flatN_len vs
  have e1:=heap_cells E _ (flatN vs) (i * 3) W cur h1 (by rw [hv]; omega)
  have e1d:(W.setCells E (i * 3) (flatN vs)).drew.heap[E]?=_:=e1
  have s1:=spl_size cur (i * 3) (flatN vs) (by rw [hv]; omega)
  have hd:(flatN (ns.drop j)).length=(ns.length - j) * 3:=by rw [flatN_len,List.length_drop]
  have e2:=heap_cells E _ (flatN (ns.drop j)) ((i + vs.length) * 3) _ _ e1d (by rw [s1,hd]; omega)
  have hrl:=rplN_len ns i j vs (by omega) hj
  refine ⟨⟨⟨_,e2,by rw [spl_size _ _ _ (by rw [s1,hd]; omega),s1,h2],?_⟩,by rw [hrl]; omega,hmax⟩,grown_trans (grown_trans (grown_cells E _ _ _) (grown_drew _ _)) (grown_cells E _ _ _)⟩
  rw [rplN_flat ns i j vs (by omega) hj,show (rplN ns i j vs).length * 3=(i + vs.length) * 3 + (flatN (ns.drop j)).length by rw [hrl,hd]; omega,spl_take2 _ _ _ (by rw [s1]; omega),show (i + vs.length) * 3=i * 3 + (flatN vs).length by rw [flatN_len]; omega,spl_take2 _ _ _ (by omega),flatN_drop ns j hj,h3,flatN_take ns i (by omega),List.append_assoc]
end Go.Proofs.YtijambehfobopaaGreatDoor
namespace Go.Proofs.YtijambehfobopaaGreatDoor
open Go.RowKit
set_option linter.unusedVariables false
theorem NX.dropAt {w:World} {E c:Nat} {ns:List Nd} (h:NX w E c ns) (j:Nat) (hj:j ≤ ns.length):∀ t v,(flatN (ns.drop j))[t]?=some v → w.cell? ((⟨E,j * 3,none⟩:Addr).add t)=some v:=fun t v ht=>by
  rw [Addr.add_lit]
  refine h.cellAt _ _ ?_
  rw [flatN_drop ns j hj,List.getElem?_drop] at ht
  exact ht
theorem grown_dn (w:World) (n:Nat) (r:Option Nat):w.grownBy (w.drewN n) r:=⟨rfl,rfl,rfl,Nat.le_refl _,fun _ _ _=>rfl⟩
set_option maxHeartbeats 4000000 in
set_option maxRecDepth 100000 in
theorem repl_widen (b0 X i j vc:Nat) (vs:List Nd) (hvs:vs.length ≤ 3) (E c:Nat) (ns:List Nd) (hl:ns.length ≤ 1073741824) (w:World) (hbE:b0 ≤ E) (hB:NX w E c ns) (hij:i < j) (hj:j < ns.length) (hX:VX w X vs) (hXE:X ≠ E) (hroom:i + vs.length + (ns.length - j) ≤ c) (hw:j < i + vs.length) :
    Calls Tryz.prog 54 #[.slice (some ⟨E,0,none⟩) ns.length c,.int .i64 (i:Int),.int .i64 (j:Int),.slice (some ⟨X,0,none⟩) vs.length vc] w fun r w'=>∃ v',r=.returned v'∧NBec w w' b0 (.slice (some ⟨E,0,none⟩) ns.length c) v' (rplN ns i j vs):=by
  have hle:=hB.le
  have hcm:=hB.max
  have hrl:=rplN_len ns i j vs (by omega) (by omega)
  obtain ⟨q,hq⟩:∃ q,i + vs.length=q:=⟨_,rfl⟩
  obtain ⟨u,hu⟩:∃ u,ns.length - j=u:=⟨_,rfl⟩
  obtain ⟨t,ht⟩:∃ t,q + u=t:=⟨_,rfl⟩
  rw [hq,hu] at hroom
  have hz2:¬ ((i:Int)=(j:Int)):=by omega
  have hz3:¬ ((j:Int)=(ns.length:Int)):=by omega
  have hb4:¬ (c=i):=by omega
  have hb2:¬ (c=q):=by omega
  have hb5:¬ (c=j):=by omega
  have hw1:IntKind.i64.wrap ((i:Int) + (vs.length:Int))=(q:Int):=by rw [IntKind.wrap_i64] <;> omega
  have hw2:IntKind.i64.wrap ((q:Int) + (u:Int))=(t:Int):=by rw [IntKind.wrap_i64] <;> omega
  have hb6:¬ ((c:Int) < (t:Int)):=by omega
  have hb7:(t:Int) ≤ (c:Int):=by omega
  have hb8:¬ ((q:Int) ≤ (j:Int)):=by omega
  have hb9:(q:Int) ≤ (t:Int):=by omega
  have hb10:(i:Int) ≤ (t:Int):=by omega
  have hqt:t - q=u:=by omega
  have hb11:(i:Int) ≤ (j:Int):=by omega
  have hb12:(j:Int) ≤ (ns.length:Int):=by omega
  have hic:(i:Int) ≤ (c:Int):=by omega
  have hjc:(j:Int) ≤ (c:Int):=by omega
  have HB:Hid (NX w E c ns):=hB
  have HX:Hid (VX w X vs):=hX
  clear hB hX
  go_enter Tryz.func54,Tryz.ntmps54
  go_wp2_with fail
  go_quiet (fail)
  have hB:NX (w.drewN nq) E c ns:=HB.out.same rfl
  have hX:VX (w.drewN nq) X vs:=HX.out.same rfl
  have HG:Hid (w.grownBy (w.drewN nq) (some E)):=grown_dn w nq _
  generalize w.drewN nq=w0 at *
  clear HB HX
  have hroomN:i + vs.length + (ns.length - j) ≤ c:=by omega
  have HSH:=hB.widen (by omega) (by omega) hroomN
  obtain ⟨cur,h1,h2,h3⟩:=hB.row
  obtain ⟨cx,x1,x2,x3,x4⟩:=hX.row
  have hov:∀ la ca lb cb,(callFunc 92 #[.slice (some ⟨E,q * 3,none⟩) la ca,.slice (some ⟨X,0,none⟩) lb cb]).run Tryz.prog w0=.ok (.value (.bool false)) w0:=fun la ca lb cb=>overlaps_no w0 E X la ca lb cb (q * 3) 0 (fun e=>hXE e.symm) cur cx h1 x1 x4
  rw [hq] at HSH
  have HRES:Hid (NBec w ((w0.drew.setCells E (q * 3) (flatN (ns.drop j))).setCells E (i * 3) (flatN vs)) b0 (.slice (some ⟨E,0,none⟩) ns.length c) (.slice (some ⟨E,0,none⟩) t c) (rplN ns i j vs)):=⟨Or.inr ⟨E,c,by rw [hrl,hq,hu,ht],hbE,HSH.1⟩,grown_trans HG.out HSH.2,fun E' h=>Or.inl (by simpa [Value.ownBlock] using h)⟩
  have h1d:w0.drew.heap[E]?=some (.cells cur 55):=h1
  have hfl:(flatN (ns.drop j)).length=u * 3:=by rw [flatN_len,List.length_drop,hu]
  have hcp1:∀ ty dc sc,(Builtin.copy_ #[67,67] ty #[.slice (some ⟨E,q * 3,none⟩) u dc,.slice (some ⟨E,j * 3,none⟩) u sc]).run Tryz.prog w0.drew=.ok (goInt (Nat.min u u)) (w0.drew.setCells E (q * 3) (flatN (ns.drop j))):=fun ty dc sc =>
    run_copy3 w0.drew ty E (q * 3) u dc ⟨E,j * 3,none⟩ u sc (flatN (ns.drop j)) (by rw [hfl]; simp) (fun k v hk=>(hB.dropAt j (by omega)) k v hk)
      (fun k hk=>by rw [cell_of_row _ _ _ _ _ _ h1d,Array.getElem?_eq_getElem (by omega)]; rfl) (fun k hk=>frozen_of_row _ _ _ _ _ h1d) (flatN_one _)
  obtain ⟨W1,hW1⟩:∃ W1,W1=w0.drew.setCells E (q * 3) (flatN (ns.drop j)):=⟨_,rfl⟩
  have r1:=heap_cells E _ (flatN (ns.drop j)) (q * 3) w0.drew cur h1d (by rw [hfl]; omega)
  have s1:=spl_size cur (q * 3) (flatN (ns.drop j)) (by rw [hfl]; omega)
  rw [← hW1] at r1 hcp1 HRES
  have hXW:VX W1 X vs:=hX.same (by rw [hW1,(grown_cells E _ _ w0.drew).block X hX.lt (by simpa using hXE)]; rfl)
  obtain ⟨k,hk⟩:∃ k,t - i=k:=⟨_,rfl⟩
  have hcp2:∀ ty dc,(Builtin.copy_ #[67,67] ty #[.slice (some ⟨E,i * 3,none⟩) k dc,.slice (some ⟨X,0,none⟩) vs.length vc]).run Tryz.prog W1=.ok (goInt (Nat.min vs.length k)) (W1.setCells E (i * 3) (flatN vs)):=fun ty dc =>
    run_copy3 W1 ty E (i * 3) k dc ⟨X,0,none⟩ vs.length vc (flatN vs) (by rw [flatN_len]; simp only [Nat.min_def]; split <;> omega) hXW.cells
      (fun a ha=>by rw [flatN_len] at ha; rw [cell_of_row _ _ _ _ _ _ r1,Array.getElem?_eq_getElem (by omega)]; rfl) (fun a ha=>frozen_of_row _ _ _ _ _ r1) (flatN_one _)
  have mixed:Tryz.prog.follows Departure.mixedOrders=true:=by kernel_rfl
  clear HSH h1 h1d r1 hXW hB hX x1 x2 x3 h3
  subst hW1
  go_wp2_with (simp only [hov])
  go_region_law_o (refine step_copy_runI rfl _ _ 67 67 rfl _ _ (by simp [Act.eval,Act.put]) (by simp [Act.eval,Act.put]) (hcp1 _ _ _) ?_)
  go_wp2
  go_returns
  exact ⟨_,rfl,HRES.out⟩
end Go.Proofs.YtijambehfobopaaGreatDoor
namespace Go.Proofs.YtijambehfobopaaGreatDoor
open Go.RowKit
set_option linter.unusedVariables false
def Kept (b:Nat) (w w':World):Prop:=∀ (k:Nat) (cs:Array Value) (T:TypeId) (fr:Nat × Nat),w.heap[k]?=some (.cells cs T fr) → k ≠ b → T ≠ 5 → w'.heap[k]?=some (.cells cs T fr)
theorem Kept.trans {b:Nat} {a c d:World} (h:Kept b a c) (h2:Kept b c d):Kept b a d:=fun k cs T fr e hk hT=>h2 k cs T fr (h k cs T fr e hk hT) hk hT
theorem Kept.below {b:Nat} {w w':World} (h:Below w.heap.size w w'):Kept b w w':=fun k cs T fr e _ _=>by rw [h.block k (row_lt e)]; exact e
structure BK (B b:Nat) (w w':World):Prop where
  bel:Below B w w'
  kept:Kept b w w'
theorem BK.trans {B b:Nat} {x y z:World} (h:BK B b x y) (k:BK B b y z):BK B b x z:=⟨h.bel.trans k.bel,h.kept.trans k.kept⟩
theorem BK.size {B b:Nat} {x y:World} (h:BK B b x y):x.heap.size ≤ y.heap.size:=h.bel.size
theorem BK.refl (B b:Nat) (w:World):BK B b w w:=⟨Below.refl _ _,fun _ _ _ _ h _ _=>h⟩
theorem BK.of {B b:Nat} {x y:World} (h:Below x.heap.size x y) (hB:B ≤ x.heap.size):BK B b x y:=⟨h.mono hB,Kept.below h⟩
theorem BK.dn {B b:Nat} {x y:World} (h:BK B b x y) (n:Nat):BK B b x (y.drewN n):=h.trans ⟨below_dn (Below.refl _ y) n,fun _ _ _ _ h _ _=>h⟩
theorem kept_of {B b:Nat} {w w1 w2:World} {v v':Value} {l:List UInt8} (hown:w.ownsRow B 5 1 v l.length (bcells l)) (h1:∀ k,k < w.heap.size → w1.heap[k]?=w.heap[k]?) (hs:w.heap.size ≤ w1.heap.size) (hg:w1.grownBy w2 v.ownBlock) :
    Kept b w (w2.setCell ⟨b,1,none⟩ v'):=by
  intro k cs T fr hk hkb hT
  have hne2:some k ≠ v.ownBlock:=by
    intro e
    rcases hown.2 with ⟨hv,_⟩ | ⟨g2,cap3,cur,hv,_,hg2,_⟩
    · rw [hv] at e; simp [Value.ownBlock] at e
    · rw [hv] at e
      simp [Value.ownBlock] at e
      subst e
      rw [hg2] at hk
      injection hk with hk
      injection hk with _ h2
      exact hT h2.symm
  have hlt:=row_lt hk
  have h2:w2.heap[k]?=some (.cells cs T fr):=by rw [hg.block k (by omega) hne2,h1 k hlt]; exact hk
  simp [World.setCell,Array.getElem?_modify,Ne.symm hkb,h2]
def mcells (b:Nat) (v:Value):Array Value:=#[.pointer (some ⟨b,0,none⟩),v]
def MakerAt (B b:Nat) (l:List UInt8) (w:World):Prop:=
  B ≤ b∧∃ v,w.heap[b]?=some (.cells (mcells b v) 189 (0,0))∧w.ownsRow B 5 1 v l.length (bcells l)∧v.ownBlock ≠ some b
theorem liesB:liesAt Tryz.prog Tryz.prog.depth 189 (2 / Tryz.prog.cellsOf 189) 0 187 1=true:=by kernel_rfl
theorem sizeB:(Tryz.prog.info? 187).map (·.size)=some 2:=by kernel_rfl
theorem cell_heap {w:World} {b:Nat} {cs:Array Value} {T:TypeId} {fr:Nat × Nat} (hb:w.heap[b]?=some (.cells cs T fr)) (j:Nat):w.cell? ⟨b,j,none⟩=cs[j]?:=by
  simp [World.cell?,hb]
set_option maxHeartbeats 1000000 in
set_option maxRecDepth 100000 in
theorem copyCheck_used (b:Nat) (w:World) (h0:w.cell? ⟨b,0,none⟩=some (.pointer (some ⟨b,0,none⟩))) :
    Calls Tryz.prog 153 #[.pointer (some ⟨b,0,none⟩)] w fun e w'=>e=.returned (.tuple #[])∧w'=w:=by
  obtain ⟨j,hj,_⟩:=Option.map_eq_some_iff.1 sizeB
  go_enter Tryz.func153,Tryz.ntmps153
  go_wp2
  rw [Lib.run_neq_ptr_same w _ Tryz.underlying185 hj]
  go_wp2
  go_end0
  exact ⟨rfl,rfl⟩
set_option maxHeartbeats 1000000 in
set_option maxRecDepth 100000 in
theorem copyCheck_fresh (b:Nat) (w:World) (h0:w.cell? ⟨b,0,none⟩=some (.pointer none)) (hsh:w.shape? b=some (189,2)) (hfz:w.frozen? ⟨b,0,none⟩=false) :
    Calls Tryz.prog 153 #[.pointer (some ⟨b,0,none⟩)] w fun e w'=>e=.returned (.tuple #[])∧w'=w.setCell ⟨b,0,none⟩ (.pointer (some ⟨b,0,none⟩)):=by
  obtain ⟨j,hj,hjs⟩:=Option.map_eq_some_iff.1 sizeB
  go_enter Tryz.func153,Tryz.ntmps153
  go_wp2
  rw [Lib.run_to_unsafe w ⟨b,0,none⟩ Tryz.underlying185 Tryz.underlying209 hj (by rw [hjs]; decide) hsh (show (0:Nat) < 2 by omega)]
  simp only [Result.andThen]
  rw [Oper.upon_value]
  go_wp2
  rw [run_callFunc_extern Tryz.func164 (by kernel_rfl) (by kernel_rfl) (by kernel_rfl) (e:=Extern.AbiNoEscape.same) (by kernel_rfl)]
  rw [Lib.run_noEscape]
  simp only [Result.andThen]
  rw [Oper.upon_value]
  go_wp2
  rw [Lib.run_from_unsafe w ⟨b,0,none⟩ Tryz.underlying209 Tryz.underlying185 hj hsh liesB]
  simp only [Result.andThen]
  rw [Oper.upon_value]
  go_wp2
  go_end0
  exact ⟨rfl,rfl⟩
theorem maker_put {B b:Nat} {v v':Value} {l:List UInt8} {w:World} (hB:B ≤ b) (hb:w.heap[b]?=some (.cells (mcells b v) 189 (0,0))) (hown:w.ownsRow B 5 1 v' l.length (bcells l)) :
    MakerAt B b l (w.setCell ⟨b,1,none⟩ v'):=by
  have hne:v'.ownBlock ≠ some b:=by
    intro e
    rcases hown.2 with ⟨h,_⟩ | ⟨g,cap,cur,h,_,hg,_⟩
    · subst h; simp [Value.ownBlock] at e
    · subst h
      simp [Value.ownBlock] at e
      subst e
      rw [hb] at hg
      injection hg with hg
      injection hg with _ h2
      exact absurd h2 (by decide)
  refine ⟨hB,v',?_,?_,hne⟩
  · simp [World.setCell,Array.getElem?_modify,hb,mcells]
  · refine hown.kept (row:=some b) ⟨rfl,rfl,rfl,by simp [World.setCell],fun k _ hk=>Below.heap_setCell _ _ _ _ (fun e=>hk (by simp [e]))⟩ ?_
    exact Or.inr hne
set_option maxHeartbeats 2000000 in
set_option maxRecDepth 100000 in
theorem writeString_any (B b:Nat) (l:List UInt8) (s:ByteArray) (w:World) (h:MakerAt B b l w) (hlen:l.length + s.size ≤ 140737488355328) (hBw:B ≤ w.heap.size) :
    Calls Tryz.prog 136 #[.pointer (some ⟨b,0,none⟩),.string s] w fun e w'=>e=.returned (.tuple #[.int .i64 s.size,.nilIface])∧(MakerAt B b (l ++ s.data.toList) w'∧BK B b w w'):=by
  obtain ⟨i0,hi,hz0,hz1,hz2⟩:=info_parts info5
  obtain ⟨hB,v,hbk,hown,hne⟩:=h
  have c0:w.cell? ⟨b,0,none⟩=some (.pointer (some ⟨b,0,none⟩)):=by rw [cell_heap hbk]; rfl
  have c1:w.cell? ⟨b,1,none⟩=some v:=by rw [cell_heap hbk]; rfl
  go_enter Tryz.func136,Tryz.ntmps136
  go_wp2_with fail
  refine (copyCheck_used b w c0).mono ?_
  rintro e w1 ⟨rfl,hw1⟩
  subst w1
  go_wp2_with (at_builtin; go_must (refine Lib.wpList_append_own_string _ rfl _ _ 107 9 rfl B 5 i0 Tryz.underlying107 Tryz.underlying9 hi hz0 hz1 hz2 _ _ _ rfl hown s rfl ?c3 ?c4 ?c5 ?_))
  case c3=>unfold maxLen; omega
  case c4=>omega
  case c5=>omega
  intro v' w2 hown' hgrow _
  have hb2:w2.heap[b]?=some (.cells (mcells b v) 189 (0,0)):=by
    rw [hgrow.block b (row_lt hbk) (fun e=>hne e.symm)]
    exact hbk
  have d0:w2.cell? ⟨b,0,none⟩=some (.pointer (some ⟨b,0,none⟩)):=by rw [cell_heap hb2]; rfl
  have d1:w2.cell? ⟨b,1,none⟩=some v:=by rw [cell_heap hb2]; rfl
  have f1:w2.frozen? ⟨b,1,none⟩=false:=Lib.frozen_of_heap hb2 1
  obtain ⟨ao,n',cap,rfl⟩:∃ ao n' cap,v'=.slice ao n' cap:=by
    obtain ⟨p,c,e⟩:=own_form hown'
    exact ⟨_,_,_,e⟩
  have HO2:Hid (w2.ownsRow B 5 1 (.slice ao n' cap) (l ++ s.data.toList).length (bcells (l ++ s.data.toList))):=by
    rw [bcells_str,List.length_append,list_len]; exact hown'
  clear hown'
  go_wp2
  go_ret2
  refine ⟨rfl,maker_put hB hb2 HO2.out,?_,?_⟩
  · exact ((Below.refl B w).grown hgrow hBw (fun k hk=>(hown.lt k hk).1)).setCell (p:=⟨b,1,none⟩) hB _
  · exact kept_of hown (fun _ _=>rfl) (Nat.le_refl _) hgrow
set_option maxHeartbeats 2000000 in
set_option maxRecDepth 100000 in
theorem writeByte_any (B b:Nat) (l:List UInt8) (c:UInt8) (w:World) (h:MakerAt B b l w) (hlen:l.length + 1 ≤ 140737488355328) (hBw:B ≤ w.heap.size) :
    Calls Tryz.prog 139 #[.pointer (some ⟨b,0,none⟩),.int .u8 (c.toNat:Int)] w fun e w'=>e=.returned .nilIface∧(MakerAt B b (l ++ [c]) w'∧BK B b w w'):=by
  obtain ⟨i0,hi,hz0,hz1,hz2⟩:=info_parts info5
  obtain ⟨hB,v,hbk,hown,hne⟩:=h
  have c0:w.cell? ⟨b,0,none⟩=some (.pointer (some ⟨b,0,none⟩)):=by rw [cell_heap hbk]; rfl
  have c1:w.cell? ⟨b,1,none⟩=some v:=by rw [cell_heap hbk]; rfl
  go_enter Tryz.func139,Tryz.ntmps139
  go_wp2_with fail
  refine (copyCheck_used b w c0).mono ?_
  rintro e w1 ⟨rfl,hw1⟩
  subst w1
  go_wp2_with (at_builtin; go_must (refine wpList_append_own _ rfl _ _ 107 rfl B 5 i0 (.int .u8 0) 1 1 Tryz.underlying107 hi hz0 hz1 hz2 rfl (by decide) _ _ _ rfl (World.ownsRow.alloc hown _) ⟨w.heap.size,0,none⟩ 1 1 [.int .u8 (c.toNat:Int)] rfl rfl ?c1 ?c2 ?c3 ?c4 ?c5 ?_))
  case c1 =>
    intro t u hj
    match t,hj with
    | 0,hj=>simp at hj; subst hj; simp [Addr.add]
  case c2=>intro u hu; simp at hu; subst hu; rfl
  case c3=>unfold maxLen; omega
  case c4=>omega
  case c5=>simp; omega
  intro v' w2 hown' hgrow _
  have hb2:w2.heap[b]?=some (.cells (mcells b v) 189 (0,0)):=by
    rw [hgrow.block b (by have:=row_lt hbk; simp; omega) (fun e=>hne e.symm)]
    exact (heap_alloc_old w _ (row_lt hbk)).trans hbk
  have d0:w2.cell? ⟨b,0,none⟩=some (.pointer (some ⟨b,0,none⟩)):=by rw [cell_heap hb2]; rfl
  have d1:w2.cell? ⟨b,1,none⟩=some v:=by rw [cell_heap hb2]; rfl
  have f1:w2.frozen? ⟨b,1,none⟩=false:=Lib.frozen_of_heap hb2 1
  obtain ⟨ao,n',cap,rfl⟩:∃ ao n' cap,v'=.slice ao n' cap:=by
    obtain ⟨p,c,e⟩:=own_form hown'
    exact ⟨_,_,_,e⟩
  have HO2:Hid (w2.ownsRow B 5 1 (.slice ao n' cap) (l ++ [c]).length (bcells (l ++ [c]))):=by
    rw [bcells_snoc,List.length_append]; exact hown'
  have HBB:Hid (Below B w w2):=((Below.refl B w).alloc hBw _).grown hgrow (by simp; omega) (fun k hk=>(World.ownsRow.lt hown k hk).1)
  have HKP:Hid (∀ v',Kept b w (w2.setCell ⟨b,1,none⟩ v')):=fun v'=>kept_of hown (fun k hk=>heap_alloc_old w _ hk) (by simp) hgrow
  clear hown' hgrow
  go_wp2
  go_ret
  exact ⟨rfl,maker_put hB hb2 HO2.out,HBB.out.setCell (p:=⟨b,1,none⟩) hB _,HKP.out _⟩
set_option maxHeartbeats 2000000 in
set_option maxRecDepth 100000 in
theorem string_any (B b:Nat) (l:List UInt8) (w:World) (h:MakerAt B b l w) (h0:l ≠ []) :
    Calls Tryz.prog 140 #[.pointer (some ⟨b,0,none⟩)] w fun e w'=>e=.returned (.string (strB l))∧Below B w w':=by
  obtain ⟨hB,v,hbk,hown,hne⟩:=h
  have hl0:l.length ≠ 0:=by simpa using h0
  obtain ⟨g,cap,cur,rfl,hbg,hg,hnc,hcm,hcs,htake⟩:∃ g cap cur,v=.slice (some ⟨g,0,none⟩) l.length cap∧B ≤ g∧w.heap[g]?=some (.cells cur 5 (0,0))∧l.length ≤ cap∧cap ≤ maxLen∧cur.size=cap * 1∧cur.toList.take (l.length * 1)=bcells l:=by
    rcases hown.2 with ⟨_,hz⟩ | ⟨g,cap,cur,hv,r⟩
    · exact absurd hz hl0
    · exact ⟨g,cap,cur,hv,r⟩
  have c1:w.drew.cell? ⟨b,1,none⟩=some (.slice (some ⟨g,0,none⟩) l.length cap):=by
    have:w.drew.heap[b]?=some (.cells (mcells b (.slice (some ⟨g,0,none⟩) l.length cap)) 189 (0,0)):=hbk
    rw [cell_heap this]; rfl
  have hSD:(Builtin.unsafeSliceData_ #[107] 143 #[.slice (some ⟨g,0,none⟩) l.length cap]).run Tryz.prog w.drew=.ok (.pointer (some ⟨g,0,none⟩)) w.drew:=
    Lib.run_unsafeSliceData_row _ _ _ _ _ _ (by omega)
  have hUS:(Builtin.unsafeString_ #[143,3] 9 #[.pointer (some ⟨g,0,none⟩),.int .i64 l.length]).run Tryz.prog w.drew=.ok (.string (strB l)) (w.drew.freeze ⟨g,0,none⟩ l.length):=by
    refine Lib.run_unsafeString_row w.drew 143 3 9 5 Tryz.underlying143 (by kernel_rfl) g cur.size (by have hg':w.drew.heap[g]?=some (.cells cur 5 (0,0)):=hg; simp [World.shape?,hg']) l h0 (by omega) (by unfold maxLen at hcm; omega) ?_
    intro j x hx
    have:=hown.cells (g:=g) rfl j (.int .u8 x.toNat) (by simp [bcells,hx])
    exact this
  clear htake hown hne
  go_enter Tryz.func140,Tryz.ntmps140
  go_wp2
  go_region
  all_goals (go_wp2; go_ret; exact ⟨rfl,Lib.below_freeze (Below.drew (Below.refl B w)) (p:=⟨g,0,none⟩) hbg _⟩)
end Go.Proofs.YtijambehfobopaaGreatDoor
