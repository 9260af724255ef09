import Derived.Test.YtjnbjfjoejfmpaaGreatDoorWAE
import Derived.ArgAppend
import Derived.Deep.Cut
import Derived.Deep.CutRange
import Derived.Deep.RegionHeld3
import Derived.Deep.RegionLaw
import Derived.Deep.RegionWith
import Derived.BigRegion
import Derived.Laws.AppendOwnNone
import Derived.Laws.MakeOwn
import Derived.Laws.OwnMore
import Derived.OwnWalk
import Derived.Lib.AppendZerosOnto
import Derived.Shelf.Spec.SlicesInsert
import Derived.Lib.Builder
import Derived.Lib.MakeNoZero
import Derived.Lib.UnsafeStr
import Derived.Laws.Externs
import Derived.Laws.IdiomCopy
import Derived.Test.YtjnbjfjoejfmpaaGreatDoorTie
import Derived.Test.YtjnbjfjoejfmpaaGreatDoorCards
import Derived.ProofKit
import Derived.LaidMore
import Derived.OpenShut
import Derived.ShutString
import Derived.SizedLaws
import Derived.Stop.Joined
import Derived.Stop.LaidErr
import Derived.Lib.LaidTab
import Derived.SevenTiedAt
set_option linter.unusedVariables false
namespace Go.Proofs.YtjnbjfjoejfmpaaGreatDoor.QM
abbrev Txt:=ByteArray
abbrev NL:=List (List Txt)
/-! a list's nodes as plain lists. -/
def plc:NL → Nat → Nat × Nat
  | [],i=>(0,i)
  | x :: N,i=>if i < x.length then (0,i) else ((plc N (i - x.length)).1 + 1,(plc N (i - x.length)).2)
theorem plc_spec:∀ (N:NL) (i:Nat),i < N.flatten.length → ∃ A x C,N=A ++ x :: C∧(plc N i).1=A.length∧(plc N i).2 < x.length∧A.flatten.length + (plc N i).2=i
  | [],i,h=>by simp at h
  | x :: N,i,h=>by
    unfold plc
    by_cases hi:i < x.length
    · exact ⟨[],x,N,rfl,by simp [hi],by simp [hi],by simp [hi]⟩
    · rw [List.flatten_cons,List.length_append] at h
      obtain ⟨A,y,C,h1,h2,h3,h4⟩:=plc_spec N (i - x.length) (by omega)
      refine ⟨x :: A,y,C,by rw [h1]; rfl,by simp [hi,h2],by simpa [hi] using h3,?_⟩
      rw [List.flatten_cons,List.length_append,if_neg hi]; show _ + (plc N (i - x.length)).2=i; omega
theorem plc_at (A:NL) (x:List Txt) (C:NL) (k:Nat) (hk:k < x.length):plc (A ++ x :: C) (A.flatten.length + k)=(A.length,k):=by
  induction A with
  | nil=>simp [plc,hk]
  | cons y A ih =>
    simp only [List.cons_append,plc]
    rw [if_neg (by rw [List.flatten_cons,List.length_append]; omega)]
    rw [show (y :: A).flatten.length + k - y.length=A.flatten.length + k by rw [List.flatten_cons,List.length_append]; omega,ih]; rfl
def ne (y:List Txt):NL:=if y=[] then [] else [y]
theorem ne_nil:ne []=[]:=rfl
theorem ne_some {y:List Txt} (h:y ≠ []):ne y=[y]:=by unfold ne; rw [if_neg h]
theorem ne_flat (y:List Txt):(ne y).flatten=y:=by unfold ne; split <;> simp [*]
theorem ne_all (y:List Txt):∀ x ∈ ne y,x ≠ []:=by unfold ne; split <;> simp [*]
def nes (vs:NL):NL:=vs.filter (fun y=>!y.isEmpty)
theorem nes_cons (y:List Txt) (vs:NL):nes (y :: vs)=ne y ++ nes vs:=by
  unfold nes ne; cases y <;> simp
theorem nes_nil:nes []=[]:=rfl
def rep (N:NL) (n m:Nat) (vs:NL):NL:=N.take n ++ (nes vs ++ N.drop (n + m))
def delE:NL → Nat → Nat → NL
  | [],_,_=>[]
  | x :: N,i,e=>ne (x.take i ++ x.drop e) ++ delE N (i - x.length) (e - x.length)
theorem delE_flat:∀ (N:NL) (i e:Nat),i ≤ e → (delE N i e).flatten=N.flatten.take i ++ N.flatten.drop e
  | [],i,e,h=>by simp [delE]
  | x :: N,i,e,h=>by
    rw [delE,List.flatten_append,ne_flat,delE_flat N _ _ (by omega),List.flatten_cons,List.take_append,List.drop_append]
    simp only [List.append_assoc]
    congr 1
    by_cases hx:i ≤ x.length
    · rw [show i - x.length=0 by omega]; simp
    · rw [List.drop_eq_nil_of_le (show x.length ≤ e by omega)]; simp
theorem delE_ne:∀ (N:NL) (i e:Nat),∀ x ∈ delE N i e,x ≠ []
  | [],i,e=>by simp [delE]
  | x :: N,i,e=>by
    intro y hy
    rw [delE,List.mem_append] at hy
    rcases hy with hy | hy
    · exact ne_all _ y hy
    · exact delE_ne N _ _ y hy
theorem delE_zero:∀ (N:NL) (i:Nat),(∀ x ∈ N,x ≠ []) → delE N i i=N
  | [],_,_=>rfl
  | x :: N,i,h=>by
    rw [delE,List.take_append_drop,ne_some (h x (by simp)),delE_zero N _ (fun y hy=>h y (by simp [hy]))]; rfl
theorem delE_app:∀ (A M:NL) (i e:Nat),(∀ x ∈ A,x ≠ []) → A.flatten.length ≤ i → i ≤ e → delE (A ++ M) i e=A ++ delE M (i - A.flatten.length) (e - A.flatten.length)
  | [],M,i,e,_,_,_=>by simp
  | x :: A,M,i,e,h,hi,he=>by
    simp only [List.flatten_cons,List.length_append] at hi ⊢
    rw [List.cons_append,delE,List.take_of_length_le (by omega),List.drop_eq_nil_of_le (by omega),List.append_nil,ne_some (h x (by simp)),delE_app A M _ _ (fun y hy=>h y (by simp [hy])) (by omega) (by omega)]
    rw [show i - x.length - A.flatten.length=i - (x.length + A.flatten.length) by omega,show e - x.length - A.flatten.length=e - (x.length + A.flatten.length) by omega]; rfl
theorem delE_whole:∀ (A M:NL) (e:Nat),A.flatten.length ≤ e → delE (A ++ M) 0 e=delE M 0 (e - A.flatten.length)
  | [],M,e,_=>by simp
  | x :: A,M,e,h=>by
    simp only [List.flatten_cons,List.length_append] at h ⊢
    rw [List.cons_append,delE,List.take_zero,List.drop_eq_nil_of_le (by omega),List.append_nil,ne_nil,List.nil_append,Nat.zero_sub,delE_whole A M _ (by omega)]
    congr 1; omega
def whl:NL → Nat → Nat
  | [],_=>0
  | x :: N,r=>if x.length ≤ r then whl N (r - x.length) + 1 else 0
theorem whl_sum:∀ (N:NL) (r:Nat),(N.take (whl N r)).flatten.length ≤ r
  | [],_=>by simp
  | x :: N,r=>by
    unfold whl; split
    · have:=whl_sum N (r - x.length); simp at this ⊢; omega
    · simp
theorem del_step (A:NL) (x:List Txt) (C:NL) (k most:Nat) (hA:∀ y ∈ A,y ≠ []) (hC:∀ y ∈ C,y ≠ []) (hk:k < x.length) (hm:1 ≤ most) (cut m:Nat) (hcut:cut=min most (x.length - k)) (hmm:m=whl C (most - cut)) (taken:Nat) (ht:taken=cut + (C.take m).flatten.length) :
    1 ≤ taken∧taken ≤ most∧delE (A ++ x :: C) (A.flatten.length + k) (A.flatten.length + k + most)=delE (A ++ (ne (x.take k ++ x.drop (k + cut)) ++ C.drop m)) (A.flatten.length + k) (A.flatten.length + k + (most - taken)):=by
  have hs:=whl_sum C (most - cut)
  rw [← hmm] at hs
  refine ⟨by omega,by omega,?_⟩
  rw [delE_app A _ _ _ hA (by omega) (by omega),delE_app A _ _ _ hA (by omega) (by omega)]
  congr 1
  rw [show A.flatten.length + k - A.flatten.length=k by omega,show A.flatten.length + k + most - A.flatten.length=k + most by omega,show A.flatten.length + k + (most - taken) - A.flatten.length=k + (most - taken) by omega]
  rw [delE,show k - x.length=0 by omega]
  by_cases hc:most < x.length - k
  · have hc1:cut=most:=by omega
    have hm0:m=0:=by
      rw [hmm,hc1,Nat.sub_self]
      cases C with
      | nil=>rfl
      | cons y C=>unfold whl; rw [if_neg]; have:=hC y (by simp); have:=List.length_pos_iff.2 this; omega
    subst hm0
    have ht1:most - taken=0:=by omega
    rw [ht1,Nat.add_zero,delE_zero,hc1,List.drop_zero,show k + most - x.length=0 by omega,delE_zero C 0 hC]
    intro y hy
    rcases List.mem_append.1 hy with hy | hy
    · exact ne_all _ y hy
    · exact hC y (by simpa using hy)
  · have hc1:cut=x.length - k:=by omega
    rw [List.drop_eq_nil_of_le (show x.length ≤ k + most by omega),List.drop_eq_nil_of_le (show x.length ≤ k + cut by omega),List.append_nil]
    have hxl:(x.take k).length=k:=by rw [List.length_take]; omega
    have h1:delE C 0 (k + most - x.length)=delE (C.drop m) 0 (most - taken):=by
      conv=>lhs; rw [← List.take_append_drop m C]
      rw [delE_whole _ _ _ (by omega)]; congr 1; omega
    rw [h1,delE_app (ne (x.take k)) _ _ _ (ne_all _) (by rw [ne_flat,hxl]; exact Nat.le_refl _) (by omega),ne_flat,hxl,show k - k=0 by omega,show k + (most - taken) - k=most - taken by omega]
/-! what must hold of a list's nodes. -/
structure Inv (E B:Nat) (N:NL):Prop where
  le:1 ≤ E∧E ≤ 4096
  lb:B ≤ 4096
  some:∀ x ∈ N,x ≠ []
  few:∀ x ∈ N,x.length ≤ E
  short:∀ x ∈ N,∀ t ∈ x,t.size ≤ 524288
  alone:∀ x ∈ N,∀ t ∈ x,B < t.size → x.length=1
def lg (B:Nat) (x:List Txt):Bool:=match x with
  | t :: _=>decide (B < t.size)
  | []=>false
theorem lg_alone {E B:Nat} {N:NL} (h:Inv E B N) {x:List Txt} (hx:x ∈ N) (hl:lg B x=true):∃ t,x=[t]∧B < t.size:=by
  cases x with
  | nil=>simp [lg] at hl
  | cons t x =>
    simp [lg] at hl
    have:=h.alone _ hx t (by simp) hl
    simp at this
    exact ⟨t,by rw [this],hl⟩
theorem lg_not {E B:Nat} {N:NL} (h:Inv E B N) {x:List Txt} (hx:x ∈ N) (hl:lg B x=false):∀ t ∈ x,t.size ≤ B:=by
  intro t ht
  by_cases hb:B < t.size
  · have:=h.alone _ hx t ht hb
    cases x with
    | nil=>simp at ht
    | cons u x =>
      simp at this; subst this
      simp at ht; subst ht
      simp [lg] at hl; omega
  · omega
theorem Inv.empty {E B:Nat} (h:1 ≤ E∧E ≤ 4096) (hb:B ≤ 4096):Inv E B []:=⟨h,hb,by simp,by simp,by simp,by simp⟩
theorem Inv.rep {E B:Nat} {N:NL} (h:Inv E B N) (n m:Nat) (vs:NL) (hv:∀ x ∈ vs,x.length ≤ E∧(∀ t ∈ x,t.size ≤ 524288)∧(∀ t ∈ x,B < t.size → x.length=1)):Inv E B (rep N n m vs):=by
  have hm:∀ x ∈ QM.rep N n m vs,x ∈ N ∨ (x ∈ vs∧x ≠ []):=fun x hx=>by
    unfold QM.rep nes at hx
    rcases List.mem_append.1 hx with hx | hx
    · exact Or.inl (List.mem_of_mem_take hx)
    · rcases List.mem_append.1 hx with hx | hx
      · rw [List.mem_filter] at hx; exact Or.inr ⟨hx.1,by simpa using hx.2⟩
      · exact Or.inl (List.mem_of_mem_drop hx)
  refine ⟨h.le,h.lb,fun x hx=>?_,fun x hx=>?_,fun x hx=>?_,fun x hx=>?_⟩
  · rcases hm x hx with hx | hx; exact h.some x hx; exact hx.2
  · rcases hm x hx with hx | hx; exact h.few x hx; exact (hv x hx.1).1
  · rcases hm x hx with hx | hx; exact h.short x hx; exact (hv x hx.1).2.1
  · rcases hm x hx with hx | hx; exact h.alone x hx; exact (hv x hx.1).2.2
theorem delE_mem:∀ (N:NL) (i e:Nat),i ≤ e → ∀ y ∈ delE N i e,∃ x ∈ N,y.length ≤ x.length∧∀ t ∈ y,t ∈ x
  | [],i,e,_=>by simp [delE]
  | x :: N,i,e,hie=>by
    intro y hy
    rw [delE,List.mem_append] at hy
    rcases hy with hy | hy
    · unfold ne at hy
      split at hy
      · simp at hy
      · simp at hy; subst hy
        refine ⟨x,by simp,by simp; omega,fun t ht=>?_⟩
        rcases List.mem_append.1 ht with ht | ht
        · exact List.mem_of_mem_take ht
        · exact List.mem_of_mem_drop ht
    · obtain ⟨z,h1,h2⟩:=delE_mem N _ _ (by omega) y hy; exact ⟨z,by simp [h1],h2⟩
theorem Inv.del {E B:Nat} {N:NL} (h:Inv E B N) (i e:Nat) (hie:i ≤ e):Inv E B (delE N i e):=by
  refine ⟨h.le,h.lb,delE_ne N i e,fun y hy=>?_,fun y hy t ht=>?_,fun y hy t ht hb=>?_⟩
  all_goals obtain ⟨x,h1,h2,h3⟩:=delE_mem N i e hie y hy
  · have:=h.few x h1; omega
  · exact h.short x h1 t (h3 t ht)
  · have:=h.alone x h1 t (h3 t ht) hb
    have:=List.length_pos_iff.2 (List.ne_nil_of_mem ht)
    omega
theorem len_le {N:NL} (h:∀ x ∈ N,x ≠ []):N.length ≤ N.flatten.length:=by
  induction N with
  | nil=>simp
  | cons x N ih =>
    have:=ih (fun y hy=>h y (by simp [hy]))
    have:=List.length_pos_iff.2 (h x (by simp))
    rw [List.flatten_cons,List.length_append,List.length_cons]; omega
/-! the calls. -/
def room (E B:Nat) (x:List Txt):Bool:=decide (x.length < E) && !lg B x
def big (B:Nat) (s:Txt):Bool:=decide (B < s.size)
def pushB (E B:Nat) (N:NL) (s:Txt):NL:=match N.getLast? with
  | some x=>if big B s=false∧room E B x=true then rep N (N.length - 1) 1 [x ++ [s]] else N ++ [[s]]
  | none=>[[s]]
def pushF (E B:Nat) (N:NL) (s:Txt):NL:=match N with
  | x :: M=>if big B s=false∧room E B x=true then (s :: x) :: M else [s] :: x :: M
  | []=>[[s]]
def push (E B:Nat) (N:NL) (s:Txt) (front:Bool):NL:=if front then pushF E B N s else pushB E B N s
def ins (E B:Nat) (N:NL) (i:Nat) (s:Txt):NL:=
  let n:=(plc N i).1
  let k:=(plc N i).2
  let x:=N.getD n []
  if big B s=true then rep N n 1 [x.take k,[s],x.drop k]
  else if room E B x=true then rep N n 1 [x.take k ++ s :: x.drop k]
  else if k=0∧0 < n∧room E B (N.getD (n - 1) [])=true then rep N (n - 1) 1 [N.getD (n - 1) [] ++ [s]]
  else if k=0 then rep N n 0 [[s]]
  else rep N n 1 [x.take k ++ [s],x.drop k]
def setQ (B:Nat) (N:NL) (i:Nat) (s:Txt):NL:=
  let n:=(plc N i).1
  let k:=(plc N i).2
  let x:=N.getD n []
  if lg B x=true ∨ big B s=true then rep N n 1 [x.take k,[s],x.drop (k + 1)]
  else rep N n 1 [x.set k s]
theorem nes_flat:∀ vs:NL,(nes vs).flatten=vs.flatten
  | []=>rfl
  | y :: vs=>by rw [nes_cons,List.flatten_append,ne_flat,nes_flat vs,List.flatten_cons]
theorem rep_flat (N:NL) (n m:Nat) (vs:NL):(rep N n m vs).flatten=(N.take n).flatten ++ (vs.flatten ++ (N.drop (n + m)).flatten):=by
  unfold rep; rw [List.flatten_append,List.flatten_append,nes_flat]
theorem split_flat (N:NL) (n m:Nat):(N.take n).flatten.length + ((N.drop n).take m).flatten.length + (N.drop (n + m)).flatten.length=N.flatten.length:=by
  have h:N=N.take n ++ ((N.drop n).take m ++ N.drop (n + m)):=by
    rw [← List.drop_drop,List.take_append_drop,List.take_append_drop]
  have:=congrArg (fun M=>(List.flatten M).length) h
  simp only [List.flatten_append,List.length_append] at this
  omega
theorem one_at (N:NL) (n:Nat) (h:n < N.length):((N.drop n).take 1)=[N[n]]:=by
  rw [List.drop_eq_getElem_cons h]; rfl
theorem getD_at (N:NL) (n:Nat) (h:n < N.length):N.getD n []=N[n]:=by simp [List.getD,h]
theorem plc_lt (N:NL) (i:Nat) (h:i < N.flatten.length):∃ hn:(plc N i).1 < N.length,(plc N i).2 < (N[(plc N i).1]).length∧(N.take (plc N i).1).flatten.length + (plc N i).2=i:=by
  obtain ⟨A,x,C,h1,h2,h3,h4⟩:=plc_spec N i h
  have hn:(plc N i).1 < N.length:=by rw [h2,h1]; simp
  refine ⟨hn,?_,?_⟩
  · have:N[(plc N i).1]=x:=by
      have h5:N[(plc N i).1]?=some x:=by rw [h2,h1]; simp
      rw [List.getElem?_eq_getElem hn] at h5; exact Option.some.inj h5
    rw [this]; exact h3
  · rw [h2,h1,List.take_left' rfl]; rw [h1,] at h4; exact h4
theorem room_iff {E B:Nat} {x:List Txt}:room E B x=true ↔ x.length < E∧lg B x=false:=by unfold room; simp
theorem big_iff {B:Nat} {s:Txt}:big B s=false ↔ s.size ≤ B:=by unfold big; simp
theorem Inv.rep_len {N:NL} {n m:Nat} {vs:NL} (k:Nat) (h:vs.flatten.length ≤ ((N.drop n).take m).flatten.length + k):(QM.rep N n m vs).flatten.length ≤ N.flatten.length + k:=by
  have:=split_flat N n m
  rw [rep_flat]; simp only [List.length_append]; omega
structure Good (E B:Nat) (N N':NL):Prop where
  inv:Inv E B N'
  len:N'.flatten.length ≤ N.flatten.length + 1
theorem push_rep (E B:Nat) (N:NL) (s:Txt) (f:Bool):push E B N s f=rep N (if f then 0 else N.length) 0 [[s]] ∨ (∃ n,∃ hn:n < N.length,big B s=false∧room E B N[n]=true∧(n=if f then 0 else N.length - 1)∧push E B N s f=rep N n 1 [if f then s :: N[n] else N[n] ++ [s]]):=by
  unfold push
  cases f with
  | true =>
    rw [if_pos rfl]
    cases N with
    | nil=>left; rfl
    | cons x M =>
      simp only [pushF]
      by_cases hc:big B s=false∧room E B x=true
      · rw [if_pos hc]; right; refine ⟨0,by simp,hc.1,hc.2,rfl,?_⟩
        simp [rep,nes]
      · rw [if_neg hc]; left; simp [rep,nes]
  | false =>
    rw [if_neg (by simp)]
    unfold pushB
    cases hN:N.getLast? with
    | none=>left; rw [List.getLast?_eq_none_iff] at hN; subst hN; rfl
    | some x =>
      simp only
      rw [List.getLast?_eq_getElem?] at hN
      obtain ⟨h1,h2⟩:=List.getElem?_eq_some_iff.1 hN
      by_cases hc:big B s=false∧room E B x=true
      · rw [if_pos hc]; right; refine ⟨N.length - 1,h1,hc.1,by rw [h2]; exact hc.2,rfl,?_⟩
        simp [h2]
      · rw [if_neg hc]; left; simp [rep,nes]
theorem wider {E B:Nat} {N:NL} (h:Inv E B N) {x:List Txt} (hx:x ∈ N) (hr:room E B x=true) {s:Txt} (hb:big B s=false) (hs:s.size ≤ 524288) {y:List Txt} (hl:y.length=x.length + 1) (hm:∀ t ∈ y,t ∈ x ∨ t=s):y.length ≤ E∧(∀ t ∈ y,t.size ≤ 524288)∧(∀ t ∈ y,B < t.size → y.length=1):=by
  rw [room_iff] at hr
  have hn:=lg_not h hx hr.2
  rw [big_iff] at hb
  refine ⟨by omega,fun t ht=>?_,fun t ht hbt=>?_⟩
  · rcases hm t ht with h1 | rfl; exact h.short x hx t h1; exact hs
  · rcases hm t ht with h1 | rfl; have:=hn t h1; omega; omega
theorem part {E B:Nat} {N:NL} (h:Inv E B N) {x:List Txt} (hx:x ∈ N) {y:List Txt} (hl:y.length ≤ x.length) (hm:∀ t ∈ y,t ∈ x):y.length ≤ E∧(∀ t ∈ y,t.size ≤ 524288)∧(∀ t ∈ y,B < t.size → y.length=1):=by
  refine ⟨by have:=h.few x hx; omega,fun t ht=>h.short x hx t (hm t ht),fun t ht hb=>?_⟩
  have:=h.alone x hx t (hm t ht) hb
  have:=List.length_pos_iff.2 (List.ne_nil_of_mem ht)
  omega
theorem single {E B:Nat} {N:NL} (h:Inv E B N) {s:Txt} (hs:s.size ≤ 524288):([s]:List Txt).length ≤ E∧(∀ t ∈ [s],t.size ≤ 524288)∧(∀ t ∈ [s],B < t.size → ([s]:List Txt).length=1):=by
  refine ⟨by have:=h.le; simp; omega,fun t ht=>?_,fun _ _ _=>rfl⟩
  simp at ht; subst ht; exact hs
theorem push_good {E B:Nat} {N:NL} (h:Inv E B N) (s:Txt) (hs:s.size ≤ 524288) (f:Bool):Good E B N (push E B N s f):=by
  rcases push_rep E B N s f with e | ⟨n,hn,hb,hr,_,e⟩
  · rw [e]
    refine ⟨h.rep _ _ _ (fun x hx=>?_),Inv.rep_len 1 (by simp)⟩
    rw [List.mem_singleton] at hx; subst hx; exact single h hs
  · rw [e]
    refine ⟨h.rep _ _ _ (fun x hx=>?_),Inv.rep_len 1 (by rw [one_at N n hn]; cases f <;> simp)⟩
    rw [List.mem_singleton] at hx; subst hx
    refine wider h (List.getElem_mem hn) hr hb hs (by cases f <;> simp) (fun t ht=>?_)
    cases f with
    | true=>simp at ht; rcases ht with rfl | ht; exact Or.inr rfl; exact Or.inl ht
    | false=>simp at ht; rcases ht with ht | rfl; exact Or.inl ht; exact Or.inr rfl
theorem ins_good {E B:Nat} {N:NL} (h:Inv E B N) (i:Nat) (hi:i < N.flatten.length) (s:Txt) (hs:s.size ≤ 524288):Good E B N (ins E B N i s):=by
  obtain ⟨hn,hk,_⟩:=plc_lt N i hi
  have hx:N.getD (plc N i).1 []=N[(plc N i).1]:=getD_at N _ hn
  have hxm:=List.getElem_mem hn
  unfold ins
  simp only [hx]
  generalize hX:N[(plc N i).1]=x at *
  have h1:=one_at N _ hn
  rw [hX] at h1
  have hp1:=part h hxm (y:=x.take (plc N i).2) (by rw [List.length_take]; omega) (fun t ht=>List.mem_of_mem_take ht)
  have hp2:=part h hxm (y:=x.drop (plc N i).2) (by rw [List.length_drop]; omega) (fun t ht=>List.mem_of_mem_drop ht)
  split
  · refine ⟨h.rep _ _ _ (fun y hy=>?_),Inv.rep_len 1 (by rw [h1]; simp; omega)⟩
    simp at hy; rcases hy with rfl | rfl | rfl; exact hp1; exact single h hs; exact hp2
  rename_i hbig
  have hb:big B s=false:=by simpa using hbig
  split
  · rename_i hr
    refine ⟨h.rep _ _ _ (fun y hy=>?_),Inv.rep_len 1 (by rw [h1]; simp; omega)⟩
    rw [List.mem_singleton] at hy; subst hy
    refine wider h hxm hr hb hs (by simp; omega) (fun t ht=>?_)
    simp at ht; rcases ht with ht | rfl | ht; exact Or.inl (List.mem_of_mem_take ht); exact Or.inr rfl; exact Or.inl (List.mem_of_mem_drop ht)
  split
  · rename_i hc
    have hn1:(plc N i).1 - 1 < N.length:=by omega
    rw [getD_at N _ hn1] at hc ⊢
    refine ⟨h.rep _ _ _ (fun y hy=>?_),Inv.rep_len 1 (by rw [one_at N _ hn1]; simp)⟩
    rw [List.mem_singleton] at hy; subst hy
    refine wider h (List.getElem_mem hn1) hc.2.2 hb hs (by simp) (fun t ht=>?_)
    simp at ht; rcases ht with ht | rfl; exact Or.inl ht; exact Or.inr rfl
  split
  · refine ⟨h.rep _ _ _ (fun y hy=>?_),Inv.rep_len 1 (by simp)⟩
    rw [List.mem_singleton] at hy; subst hy; exact single h hs
  · rename_i hk0
    refine ⟨h.rep _ _ _ (fun y hy=>?_),Inv.rep_len 1 (by rw [h1]; simp; omega)⟩
    simp at hy
    rcases hy with rfl | rfl
    · have hbs:=big_iff.1 hb
      have hk1:2 ≤ x.length:=by omega
      have hf:=h.few x hxm
      refine ⟨by simp; omega,fun t ht=>?_,fun t ht hbt=>?_⟩
      · simp at ht; rcases ht with ht | rfl; exact hp1.2.1 t ht; exact hs
      · simp at ht; rcases ht with ht | rfl
        · have:=h.alone x hxm t (List.mem_of_mem_take ht) hbt; omega
        · omega
    · exact hp2
theorem set_good {E B:Nat} {N:NL} (h:Inv E B N) (i:Nat) (hi:i < N.flatten.length) (s:Txt) (hs:s.size ≤ 524288):Good E B N (setQ B N i s):=by
  obtain ⟨hn,hk,_⟩:=plc_lt N i hi
  have hx:N.getD (plc N i).1 []=N[(plc N i).1]:=getD_at N _ hn
  have hxm:=List.getElem_mem hn
  unfold setQ
  simp only [hx]
  generalize hX:N[(plc N i).1]=x at *
  have h1:=one_at N _ hn
  rw [hX] at h1
  have hp1:=part h hxm (y:=x.take (plc N i).2) (by rw [List.length_take]; omega) (fun t ht=>List.mem_of_mem_take ht)
  have hp2:=part h hxm (y:=x.drop ((plc N i).2 + 1)) (by rw [List.length_drop]; omega) (fun t ht=>List.mem_of_mem_drop ht)
  split
  · refine ⟨h.rep _ _ _ (fun y hy=>?_),Inv.rep_len 1 (by rw [h1]; simp; omega)⟩
    simp at hy; rcases hy with rfl | rfl | rfl; exact hp1; exact single h hs; exact hp2
  · rename_i hc
    have hl:lg B x=false:=by cases hq:lg B x; rfl; exact absurd (Or.inl hq) hc
    have hb:s.size ≤ B:=by
      cases hq:big B s
      · exact big_iff.1 hq
      · exact absurd (Or.inr hq) hc
    have hsm:=lg_not h hxm hl
    refine ⟨h.rep _ _ _ (fun y hy=>?_),Inv.rep_len 1 (by rw [h1]; simp)⟩
    rw [List.mem_singleton] at hy; subst hy
    refine ⟨by rw [List.length_set]; exact h.few x hxm,fun t ht=>?_,fun t ht hbt=>?_⟩
    · rcases List.mem_or_eq_of_mem_set ht with ht | rfl; exact h.short x hxm t ht; exact hs
    · rcases List.mem_or_eq_of_mem_set ht with ht | rfl; have:=hsm t ht; omega; omega
theorem del_good {E B:Nat} {N:NL} (h:Inv E B N) (i e:Nat) (hie:i ≤ e):Good E B N (delE N i e):=by
  refine ⟨h.del i e hie,?_⟩
  rw [delE_flat N i e hie,List.length_append,List.length_take,List.length_drop]; omega
end Go.Proofs.YtjnbjfjoejfmpaaGreatDoor.QM
namespace Go.Proofs.YtjnbjfjoejfmpaaGreatDoor
open Go.RowKit
set_option linter.unusedVariables false
set_option linter.unusedSimpArgs false
/-! rows of cells that are written into. -/
def spl (cur:Array Value) (o:Nat) (vs:List Value):Array Value:=(cur.toList.take o ++ (vs ++ cur.toList.drop (o + vs.length))).toArray
theorem spl_size (cur:Array Value) (o:Nat) (vs:List Value) (h:o + vs.length ≤ cur.size):(spl cur o vs).size=cur.size:=by
  unfold spl; simp; omega
theorem spl_nil (cur:Array Value) (o:Nat):spl cur o []=cur:=by unfold spl; simp
theorem take_set_one {l:List Value} {o:Nat} {v:Value} (h:o < l.length):(l.set o v).take (o + 1)=l.take o ++ [v]:=by
  rw [List.take_add_one,List.getElem?_set_self h,List.take_set_of_le (Nat.le_refl o)]; rfl
theorem spl_cons (cur:Array Value) (o:Nat) (v:Value) (vs:List Value) (h:o + (vs.length + 1) ≤ cur.size):spl (cur.setIfInBounds o v) (o + 1) vs=spl cur o (v :: vs):=by
  unfold spl
  congr 1
  have ho:o < cur.toList.length:=by simp; omega
  rw [Array.toList_setIfInBounds,take_set_one ho,List.drop_set_of_lt (by omega)]
  simp [Nat.add_assoc,Nat.add_comm 1]
theorem heap_cells (E T:Nat):∀ (vs:List Value) (o:Nat) (w:World) (cur:Array Value),w.heap[E]?=some (.cells cur T) → o + vs.length ≤ cur.size → (w.setCells E o vs).heap[E]?=some (.cells (spl cur o vs) T)
  | [],o,w,cur,h,_=>by rw [spl_nil]; exact h
  | v :: r,o,w,cur,h,hl=>by
    simp only [List.length_cons] at hl
    rw [World.setCells,heap_cells E T r (o + 1) _ _ (heap_setCell_same _ _ _ _ _ _ h) (by simp; omega),spl_cons cur o v r (by omega)]
theorem grown_cells (E:Nat):∀ (vs:List Value) (o:Nat) (w:World),w.grownBy (w.setCells E o vs) (some E)
  | [],_,w=>World.grownBy.refl w _
  | v :: r,o,w=>by
    have ih:=grown_cells E r (o + 1) (w.setCell ⟨E,o,none⟩ v)
    refine ⟨ih.os,ih.tape,ih.output,by have:=ih.size; rw [World.size_setCell] at this; exact this,fun k hk hne=>?_⟩
    rw [World.setCells]
    rw [ih.block k (by rw [World.size_setCell]; exact hk) hne]
    exact heap_setCell_other _ _ _ _ (fun e=>hne (by rw [e]))
theorem grown_trans {a b c:World} {r:Option Nat} (h1:a.grownBy b r) (h2:b.grownBy c r):a.grownBy c r:=
  ⟨h2.os.trans h1.os,h2.tape.trans h1.tape,h2.output.trans h1.output,Nat.le_trans h1.size h2.size,fun k hk hne=>(h2.block k (Nat.lt_of_lt_of_le hk h1.size) hne).trans (h1.block k hk hne)⟩
theorem grown_drew (w:World) (r:Option Nat):w.grownBy w.drew r:=⟨rfl,rfl,rfl,Nat.le_refl _,fun _ _ _=>rfl⟩
theorem grown_wide {w w':World} {r:Option Nat} (h:w.grownBy w' none):w.grownBy w' r:=⟨h.os,h.tape,h.output,h.size,fun k hk _=>h.block k hk (by simp)⟩
theorem spl_take (cur:Array Value) (o k:Nat) (vs:List Value) (hk:k ≤ o) (ho:o ≤ cur.size):(spl cur o vs).toList.take k=cur.toList.take k:=by
  unfold spl
  rw [List.toList_toArray,List.take_append_of_le_length (by simp; omega),List.take_take]; congr 1; omega
abbrev Nd:=ByteArray × Nat × Bool
def ndC (n:Nd):List Value:=[.string n.1,.int .i64 (n.2.1:Int),.bool n.2.2]
def flatN (ns:List Nd):List Value:=ns.flatMap ndC
theorem flatN_cons (n:Nd) (ns:List Nd):flatN (n :: ns)=ndC n ++ flatN ns:=rfl
theorem flatN_app (a b:List Nd):flatN (a ++ b)=flatN a ++ flatN b:=by simp [flatN]
theorem flatN_len:∀ ns:List Nd,(flatN ns).length=ns.length * 3
  | []=>rfl
  | n :: ns=>by rw [flatN_cons,List.length_append,flatN_len ns]; simp [ndC]; omega
theorem flatN_take (ns:List Nd) (i:Nat) (h:i ≤ ns.length):flatN (ns.take i)=(flatN ns).take (i * 3):=by
  conv=>rhs; rw [← List.take_append_drop i ns,flatN_app]
  rw [List.take_left' (by rw [flatN_len,List.length_take]; omega)]
theorem flatN_drop (ns:List Nd) (i:Nat) (h:i ≤ ns.length):flatN (ns.drop i)=(flatN ns).drop (i * 3):=by
  conv=>rhs; rw [← List.take_append_drop i ns,flatN_app]
  rw [List.drop_left' (by rw [flatN_len,List.length_take]; omega)]
theorem flatN_one (ns:List Nd):∀ v ∈ flatN ns,v.oneCell'=true:=by
  intro v hv
  obtain ⟨n,_,hn⟩:=List.mem_flatMap.1 hv
  simp [ndC] at hn; rcases hn with rfl | rfl | rfl <;> rfl
theorem flatN_at (ns:List Nd) (t:Nat) (h:t < ns.length):(flatN ns)[t * 3]?=some (.string ns[t].1)∧(flatN ns)[t * 3 + 1]?=some (.int .i64 (ns[t].2.1:Int))∧(flatN ns)[t * 3 + 2]?=some (.bool ns[t].2.2):=by
  have e:flatN ns=flatN (ns.take t) ++ (ndC ns[t] ++ flatN (ns.drop (t + 1))):=by
    rw [← flatN_cons,← flatN_app,← List.drop_eq_getElem_cons h,List.take_append_drop]
  have hl:(flatN (ns.take t)).length=t * 3:=by rw [flatN_len,List.length_take]; omega
  rw [e]
  refine ⟨?_,?_,?_⟩ <;> rw [List.getElem?_append_right (by omega),hl] <;> simp [ndC]
structure NX (W:World) (E c:Nat) (ns:List Nd):Prop where
  row:∃ cur,W.heap[E]?=some (.cells cur 57)∧cur.size=c * 3∧cur.toList.take (ns.length * 3)=flatN ns
  le:ns.length ≤ c
  max:c ≤ maxLen
theorem NX.lt {W:World} {E c:Nat} {ns:List Nd} (h:NX W E c ns):E < W.heap.size:=by obtain ⟨cur,h1,_⟩:=h.row; exact row_lt h1
theorem NX.same {W W':World} {E c:Nat} {ns:List Nd} (h:NX W E c ns) (hb:W'.heap[E]?=W.heap[E]?):NX W' E c ns:=by
  obtain ⟨cur,h1,h2⟩:=h.row
  exact ⟨⟨cur,hb.trans h1,h2⟩,h.le,h.max⟩
theorem NX.on {W W':World} {E c:Nat} {ns:List Nd} (h:NX W E c ns) (hb:Below W.heap.size W W'):NX W' E c ns:=h.same (hb.block E h.lt)
theorem NX.cellAt {W:World} {E c:Nat} {ns:List Nd} (h:NX W E c ns) (j:Nat) (v:Value) (hj:(flatN ns)[j]?=some v):W.cell? ⟨E,j,none⟩=some v:=by
  obtain ⟨cur,h1,h2,h3⟩:=h.row
  have hl:=(List.getElem?_eq_some_iff.1 hj).1
  rw [flatN_len] at hl
  rw [cell_of_row _ _ _ _ _ _ h1,← Array.getElem?_toList,← List.getElem?_take_of_lt hl,h3,hj]
theorem NX.cells {W:World} {E c:Nat} {ns:List Nd} (h:NX W E c ns) (t:Nat) (ht:t < ns.length):W.cell? ⟨E,t * 3,none⟩=some (.string ns[t].1)∧W.cell? ⟨E,t * 3 + 1,none⟩=some (.int .i64 (ns[t].2.1:Int))∧W.cell? ⟨E,t * 3 + 2,none⟩=some (.bool ns[t].2.2):=
  ⟨h.cellAt _ _ (flatN_at ns t ht).1,h.cellAt _ _ (flatN_at ns t ht).2.1,h.cellAt _ _ (flatN_at ns t ht).2.2⟩
theorem NX.frozen {W:World} {E c:Nat} {ns:List Nd} (h:NX W E c ns) (j:Nat):W.frozen? ⟨E,j,none⟩=false:=by
  obtain ⟨cur,h1,_⟩:=h.row; exact frozen_of_row _ _ _ _ _ h1
def NV (W:World) (b0:Nat) (v:Value) (ns:List Nd):Prop:=(v=.slice none 0 0∧ns=[]) ∨ ∃ E c,v=.slice (some ⟨E,0,none⟩) ns.length c∧b0 ≤ E∧NX W E c ns
theorem NX.own {W:World} {E c b0:Nat} {ns:List Nd} (h:NX W E c ns) (hb:b0 ≤ E):W.ownsRow b0 57 3 (.slice (some ⟨E,0,none⟩) ns.length c) ns.length (flatN ns):=by
  obtain ⟨cur,h1,h2,h3⟩:=h.row
  exact ⟨flatN_len ns,Or.inr ⟨E,c,cur,rfl,hb,h1,h.le,h.max,h2,h3⟩⟩
theorem NX.ownTake {W:World} {E c b0:Nat} {ns:List Nd} (h:NX W E c ns) (hb:b0 ≤ E) (i:Nat) (hi:i ≤ ns.length):W.ownsRow b0 57 3 (.slice (some ⟨E,0,none⟩) i c) i (flatN (ns.take i)):=by
  obtain ⟨cur,h1,h2,h3⟩:=h.row
  have hle:=h.le
  refine ⟨by rw [flatN_len,List.length_take]; congr 1; omega,Or.inr ⟨E,c,cur,rfl,hb,h1,by omega,h.max,h2,?_⟩⟩
  rw [flatN_take ns i hi,← h3,List.take_take]; congr 1; omega
theorem NX.of {W:World} {b0 n:Nat} {v:Value} {ns:List Nd} (h:W.ownsRow b0 57 3 v n (flatN ns)) (hn:n=ns.length):(v=.slice none 0 0∧ns=[]) ∨ ∃ E c,v=.slice (some ⟨E,0,none⟩) ns.length c∧b0 ≤ E∧NX W E c ns:=by
  subst hn
  obtain ⟨_,⟨h1,h2⟩ | ⟨g,cap,cur,h1,hb,hg,q1,q2,q3,q4⟩⟩:=h
  · exact Or.inl ⟨h1,List.length_eq_zero_iff.1 h2⟩
  · exact Or.inr ⟨g,cap,h1,hb,⟨cur,hg,q3,q4⟩,q1,q2⟩
structure NBec (w w':World) (b0:Nat) (v v':Value) (ns':List Nd):Prop where
  now:NV w' b0 v' ns'
  grown:w.grownBy w' v.ownBlock
  blk:∀ E,v'.ownBlock=some E → v.ownBlock=some E ∨ w.heap.size ≤ E
theorem infoN:(Tryz.prog.info? 57).map (fun i=>(i.zero,i.size,i.bytes))=some (some (.agg #[.string ⟨#[]⟩,.int .i64 0,.bool false]),3,32):=by kernel_rfl
theorem run_copy3 (w:World) (ty:TypeId) (b o dLen dCap:Nat) (a:Addr) (sLen sCap:Nat) (cs:List Value) (hn:cs.length=Nat.min sLen dLen * 3)
    (hsrc:∀ j v,cs[j]?=some v → w.cell? (a.add j)=some v) (hc:∀ j,j < cs.length → (w.cell? ⟨b,o + j,none⟩).isSome=true) (hf:∀ j,j < cs.length → w.frozen? ⟨b,o + j,none⟩=false) (h1:∀ v ∈ cs,v.oneCell'=true) :
    (Builtin.copy_ #[69,69] ty #[.slice (some ⟨b,o,none⟩) dLen dCap,.slice (some a) sLen sCap]).run Tryz.prog w=.ok (goInt (Nat.min sLen dLen)) (w.setCells b o cs):=by
  obtain ⟨i0,hi,hz0,hz1,hz2⟩:=info_parts infoN
  have hl:=run_loadCells_list (P:=Tryz.prog) w a cs hsrc
  have hst:=run_storeCells_cells (P:=Tryz.prog) b o cs 0 w (by simpa using hc) (by simpa using hf) h1
  simp [Builtin.copy_,run_underlying Tryz.underlying69,Builtin.lenOf,Builtin.firstCells,sizeOf,typeInfo,hi,hz1,← hn,hl,hst]
theorem sizeN (w:World):(Go.sizeOf 57).run Tryz.prog w=.ok 3 w:=by
  obtain ⟨i0,hi,hz0,hz1,hz2⟩:=info_parts infoN
  simp [sizeOf,typeInfo,hi,hz1,go_sem]
theorem shape_row {w:World} {g T:Nat} {cur:Array Value} (h:w.heap[g]?=some (.cells cur T)):w.shape? g=some (T,cur.size):=by
  simp [World.shape?,h]
theorem overlaps_no (w:World) (X E la ca lb cb:Nat) (p o:Nat) (hne:X ≠ E) (cx ce:Array Value) (hX:w.heap[X]?=some (.cells cx 57)) (hE:w.heap[E]?=some (.cells ce 57)) (hce:ce.size ≠ 0) :
    (callFunc 97 #[.slice (some ⟨X,p,none⟩) la ca,.slice (some ⟨E,o,none⟩) lb cb]).run Tryz.prog w=.ok (.value (.bool false)) w:=by
  rw [run_callFunc_extern Tryz.func97 (by kernel_rfl) (by kernel_rfl) (by kernel_rfl) (e:=Extern.SlicesOverlaps.overlaps #[69,69] #[4]) (by kernel_rfl),
    Lib.run_overlaps_apart w 69 4 57 Tryz.underlying69 3 sizeN ⟨X,p,none⟩ ⟨E,o,none⟩ la ca lb cb hne 57 57 cx.size ce.size (shape_row hX) (shape_row hE) hce (frozen_of_row _ _ _ _ _ hX) (frozen_of_row _ _ _ _ _ hX)]
  rfl
def zeroN (k:Nat):List Value:=(Builtin.zeroCells #[.string ⟨#[]⟩,.int .i64 0,.bool false] k).toList
theorem zeroN_len (k:Nat):(zeroN k).length=k * 3:=by unfold zeroN; simp [Builtin.zeroCells]
theorem zeroN_one (k:Nat):∀ v ∈ zeroN k,v.oneCell'=true:=by
  intro v hv
  unfold zeroN Builtin.zeroCells at hv
  simp at hv
  obtain ⟨i,_,rfl⟩:=hv
  have h3:i % 3=0 ∨ i % 3=1 ∨ i % 3=2:=by omega
  rcases h3 with h | h | h <;> rw [h] <;> rfl
theorem run_clrN (E o k c:Nat) (ty:TypeId) (W:World) (cur:Array Value) (hE:W.heap[E]?=some (.cells cur 57)) (ho:o + k * 3 ≤ cur.size) :
    Sem.run Tryz.prog (Builtin.clear_ #[69] ty #[.slice (some ⟨E,o,none⟩) k c]) W=.ok (.tuple #[]) (W.setCells E o (zeroN k)):=by
  obtain ⟨i0,hi,hz0,hz1,hz2⟩:=info_parts infoN
  have hst:=run_storeCells_cells (P:=Tryz.prog) E o (zeroN k) 0 W (fun j hj=>by rw [zeroN_len] at hj; rw [cell_of_row _ _ _ _ _ _ hE,Array.getElem?_eq_getElem (by omega)]; rfl) (fun j hj=>frozen_of_row _ _ _ _ _ hE) (zeroN_one _)
  simp only [Nat.add_zero] at hst
  cases k with
  | zero =>
    have hz:zeroN 0=[]:=by unfold zeroN Builtin.zeroCells; simp
    rw [hz]
    simp only [Builtin.clear_]
    simp [go_sem]
    rfl
  | succ k =>
    unfold zeroN at hst ⊢
    simp only [Builtin.clear_]
    simp [go_sem]
    rw [hst]
    rfl
end Go.Proofs.YtjnbjfjoejfmpaaGreatDoor
namespace Go.Proofs.YtjnbjfjoejfmpaaGreatDoor
open Go.RowKit
set_option linter.unusedVariables false
structure VX (W:World) (X:Nat) (vs:List Nd):Prop where
  row:∃ cur,W.heap[X]?=some (.cells cur 57)∧cur.toList.take (vs.length * 3)=flatN vs∧vs.length * 3 ≤ cur.size∧cur.size ≠ 0
theorem VX.cells {W:World} {X:Nat} {vs:List Nd} (h:VX W X vs):∀ j u,(flatN vs)[j]?=some u → W.cell? ((⟨X,0,none⟩:Addr).add j)=some u:=fun j u hj=>by
  obtain ⟨cur,h1,h2,h3,_⟩:=h.row
  have hl:=(List.getElem?_eq_some_iff.1 hj).1
  rw [flatN_len] at hl
  rw [Addr.add_lit,Nat.zero_add,cell_of_row _ _ _ _ _ _ h1,← Array.getElem?_toList,← List.getElem?_take_of_lt hl,h2,hj]
theorem VX.same {W W':World} {X:Nat} {vs:List Nd} (h:VX W X vs) (hb:W'.heap[X]?=W.heap[X]?):VX W' X vs:=by
  obtain ⟨cur,h1,h2⟩:=h.row
  exact ⟨⟨cur,hb.trans h1,h2⟩⟩
theorem VX.lt {W:World} {X:Nat} {vs:List Nd} (h:VX W X vs):X < W.heap.size:=by obtain ⟨cur,h1,_⟩:=h.row; exact row_lt h1
theorem NX.clr {W:World} {E c k o:Nat} {ns:List Nd} (h:NX W E c ns) (ho:ns.length * 3 ≤ o) (hk:o + k * 3 ≤ c * 3):NX (W.setCells E o (zeroN k)) E c ns:=by
  obtain ⟨cur,h1,h2,h3⟩:=h.row
  refine ⟨⟨_,heap_cells E _ (zeroN k) o W cur h1 (by rw [zeroN_len]; omega),by rw [spl_size _ _ _ (by rw [zeroN_len]; omega)]; exact h2,?_⟩,h.le,h.max⟩
  rw [spl_take _ _ _ _ ho (by omega)]; exact h3
set_option maxHeartbeats 4000000 in
set_option maxRecDepth 100000 in
theorem repl_end (b0 X i vc:Nat) (vs:List Nd) (hvs:vs.length ≤ 3) (E c:Nat) (ns:List Nd) (hl:ns.length ≤ 1073741824) (w:World) (hb0:b0 ≤ w.heap.size) (hbE:b0 ≤ E) (hB:NX w E c ns) (hi:i < ns.length) (hX:VX w X vs) (hXE:X ≠ E) :
    Calls Tryz.prog 59 #[.slice (some ⟨E,0,none⟩) ns.length c,.int .i64 (i:Int),.int .i64 (ns.length:Int),.slice (some ⟨X,0,none⟩) vs.length vc] w fun r w'=>∃ v',r=.returned v'∧NBec w w' b0 (.slice (some ⟨E,0,none⟩) ns.length c) v' (ns.take i ++ vs):=by
  obtain ⟨i0,hi0,hz0,hz1,hz2⟩:=info_parts infoN
  have HN:Hid _:=hX.cells
  have HFL:Hid (flatN (ns.take i) ++ flatN vs=flatN (ns.take i ++ vs)):=(flatN_app _ _).symm
  have HLN:Hid ((ns.take i ++ vs).length=i + vs.length):=by show _=_; rw [List.length_append,List.length_take]; omega
  have HOW:Hid _:=hB.ownTake hbE i (by omega)
  have hle:=hB.le
  have hmx:=hB.max
  have h1c:∀ v ∈ flatN vs,v.oneCell'=true:=flatN_one vs
  by_cases hroom:i + vs.length ≤ c
  · by_cases hclr:i + vs.length < ns.length
    · have hcq:¬ (c=i + vs.length):=by omega
      have hz:(((i + vs.length:Nat):Int) < (ns.length:Int)):=by omega
      obtain ⟨q,hq⟩:∃ q,i + vs.length=q:=⟨_,rfl⟩
      obtain ⟨k,hk⟩:∃ k,ns.length - q=k:=⟨_,rfl⟩
      have HLQ:Hid ((ns.take i ++ vs).length=q):=by show _=_; rw [HLN.out,hq]
      have hq3:q ≤ 1073741827:=by omega
      have hqc:(q:Int) ≤ (c:Int):=by omega
      have hqn:(q:Int) ≤ (ns.length:Int):=by omega
      have hcq2:¬ (c=q):=by omega
      have hz2':((q:Int) < (ns.length:Int)):=by omega
      clear hX hB hz hcq
      go_enter Tryz.func59,Tryz.ntmps59
      go_upto_region 5 with fail
      go_wp2_with (at_builtin; go_must (refine wpList_append_fits w rfl _ _ 69 rfl b0 57 i0 3 Tryz.underlying69 hi0 hz1 E i c (flatN (ns.take i)) rfl HOW.out ⟨X,0,none⟩ vs.length vc (flatN vs) rfl (flatN_len vs) HN.out h1c hroom ?_))
      intro w1 hown hgr
      rw [HFL.out] at hown
      rcases NX.of hown HLQ.out.symm with ⟨h',_⟩ | ⟨E',c',hv',hE',hN⟩
      · cases h'
      injection hv' with e1 e2 e3
      injection e1 with e1
      injection e1 with e1 _ _
      subst e1; subst e3
      have HNX:Hid (NX w1 E c (ns.take i ++ vs)):=hN
      obtain ⟨cur,r1,r2,r3⟩:=hN.row
      have hcl:∀ ty cc,Sem.run Tryz.prog (Builtin.clear_ #[69] ty #[.slice (some ⟨E,q * 3,none⟩) k cc]) w1=.ok (.tuple #[]) (w1.setCells E (q * 3) (zeroN k)):=fun ty cc=>run_clrN E (q * 3) k cc ty w1 cur r1 (by omega)
      have HR:Hid (NBec w (w1.setCells E (q * 3) (zeroN k)) b0 (.slice (some ⟨E,0,none⟩) ns.length c) (.slice (some ⟨E,0,none⟩) q c) (ns.take i ++ vs)):=by
        refine ⟨Or.inr ⟨E,c,by rw [HLN.out,hq],hbE,hN.clr (by rw [HLN.out]; omega) (by omega)⟩,grown_trans hgr (grown_cells E _ _ _),fun E' h=>Or.inl (by simpa [Value.ownBlock] using h)⟩
      clear hown hgr hN r1 r2 r3 e2 hE' hq HNX hroom hclr
      go_wp2
      go_returns
      exact ⟨_,rfl,HR.out⟩
    · have hz:¬ (((i + vs.length:Nat):Int) < (ns.length:Int)):=by omega
      obtain ⟨q,hq⟩:∃ q,i + vs.length=q:=⟨_,rfl⟩
      have HLQ:Hid ((ns.take i ++ vs).length=q):=by show _=_; rw [HLN.out,hq]
      have hq3:q ≤ 1073741827:=by omega
      have hqn:(ns.length:Int) ≤ (q:Int):=by omega
      clear hX hB hz
      go_enter Tryz.func59,Tryz.ntmps59
      go_upto_region 5 with fail
      go_wp2_with (at_builtin; go_must (refine wpList_append_fits w rfl _ _ 69 rfl b0 57 i0 3 Tryz.underlying69 hi0 hz1 E i c (flatN (ns.take i)) rfl HOW.out ⟨X,0,none⟩ vs.length vc (flatN vs) rfl (flatN_len vs) HN.out h1c hroom ?_))
      intro w1 hown hgr
      rw [HFL.out] at hown
      rcases NX.of hown HLQ.out.symm with ⟨h',_⟩ | ⟨E',c',hv',hE',hN⟩
      · cases h'
      injection hv' with e1 e2 e3
      injection e1 with e1
      injection e1 with e1 _ _
      subst e1; subst e3
      have HR:Hid (NBec w w1 b0 (.slice (some ⟨E,0,none⟩) ns.length c) (.slice (some ⟨E,0,none⟩) q c) (ns.take i ++ vs)):=by
        refine ⟨Or.inr ⟨E,c,by rw [HLN.out,hq],hbE,hN⟩,hgr,fun E' h=>Or.inl (by simpa [Value.ownBlock] using h)⟩
      clear hown hgr hN e2 hE' hq hroom hclr
      go_wp2
      go_returns
      exact ⟨_,rfl,HR.out⟩
  · have HOL:Hid (∀ b,some (⟨E,0,none⟩:Addr)=some b → ∀ j u,(flatN (ns.take i))[j]?=some u → w.cell? (b.add j)=some u):=fun b hb j u hj=>by
      cases hb; exact World.ownsRow.cells HOW.out (g:=E) rfl j u hj
    have hfi:(flatN (ns.take i)).length=i * 3:=by rw [flatN_len,List.length_take]; congr 1; omega
    obtain ⟨q,hq⟩:∃ q,i + vs.length=q:=⟨_,rfl⟩
    have HLQ:Hid ((ns.take i ++ vs).length=q):=by show _=_; rw [HLN.out,hq]
    have hq3:q ≤ 1073741827:=by omega
    have hqn:(ns.length:Int) ≤ (q:Int):=by omega
    clear hX hB
    go_enter Tryz.func59,Tryz.ntmps59
    go_upto_region 5 with fail
    go_wp2_with (at_builtin; go_must (refine wpList_append_grows _ rfl _ _ 69 rfl 57 i0 (.agg #[.string ⟨#[]⟩,.int .i64 0,.bool false]) 3 32 Tryz.underlying69 hi0 hz0 hz1 hz2 rfl (by decide) (some ⟨E,0,none⟩) i c (flatN (ns.take i)) rfl (fun h=>by cases h) hfi HOL.out ⟨X,0,none⟩ vs.length vc (flatN vs) rfl (flatN_len vs) HN.out h1c (by omega) (by unfold maxLen; omega) (by omega) ?_))
    intro v' w1 hown hgr
    rw [HFL.out] at hown
    have hne:¬ (ns.take i ++ vs=[]):=by intro e; have:=HLQ.out; rw [e] at this; simp at this; omega
    rcases NX.of hown HLQ.out.symm with ⟨_,h'⟩ | ⟨E',c',rfl,hE',hN⟩
    · exact absurd h' hne
    have HR:Hid (NBec w w1 b0 (.slice (some ⟨E,0,none⟩) ns.length c) (.slice (some ⟨E',0,none⟩) q c') (ns.take i ++ vs)):=by
      refine ⟨Or.inr ⟨E',c',by rw [HLN.out,hq],by omega,hN⟩,grown_wide hgr,fun E2 h=>by right; simp [Value.ownBlock] at h; omega⟩
    rw [HLQ.out]
    clear hown hgr hN hE' hq hroom hne
    go_wp2
    go_returns
    exact ⟨_,rfl,HR.out⟩
end Go.Proofs.YtjnbjfjoejfmpaaGreatDoor
namespace Go.Proofs.YtjnbjfjoejfmpaaGreatDoor
open Go.RowKit
set_option linter.unusedVariables false
abbrev rplN (ns:List Nd) (i j:Nat) (vs:List Nd):List Nd:=ns.take i ++ (vs ++ ns.drop j)
theorem rplN_len (ns:List Nd) (i j:Nat) (vs:List Nd) (h:i ≤ j) (hj:j ≤ ns.length):(rplN ns i j vs).length=i + vs.length + (ns.length - j):=by
  unfold rplN; simp only [List.length_append,List.length_take,List.length_drop]; omega
theorem rplN_flat (ns:List Nd) (i j:Nat) (vs:List Nd) (h:i ≤ j) (hj:j ≤ ns.length):flatN (rplN ns i j vs)=(flatN ns).take (i * 3) ++ (flatN vs ++ (flatN ns).drop (j * 3)):=by
  unfold rplN; rw [flatN_app,flatN_app,flatN_take ns i (by omega),flatN_drop ns j hj]
theorem spl_take2 (cur:Array Value) (o:Nat) (vs:List Value) (ho:o ≤ cur.size):(spl cur o vs).toList.take (o + vs.length)=cur.toList.take o ++ vs:=by
  unfold spl
  have hl:(cur.toList.take o).length=o:=by simp; omega
  rw [← List.append_assoc,List.take_left' (by rw [List.length_append,hl])]
theorem spl_take3 (cur:Array Value) (o k:Nat) (vs:List Value) (hk:o + vs.length ≤ k) (ho:k ≤ cur.size):(spl cur o vs).toList.take k=cur.toList.take o ++ (vs ++ (cur.toList.take k).drop (o + vs.length)):=by
  unfold spl
  have hl:(cur.toList.take o).length=o:=by simp; omega
  obtain ⟨d,rfl⟩:∃ d,k=o + (vs.length + d):=⟨k - o - vs.length,by omega⟩
  have h1:∀ (a b r:List Value),(a ++ (b ++ r)).take (a.length + (b.length + d))=a ++ (b ++ r.take d):=fun a b r=>by
    rw [List.take_length_add_append,List.take_length_add_append]
  have:=h1 (cur.toList.take o) vs (cur.toList.drop (o + vs.length))
  rw [hl] at this
  rw [this,List.take_drop,Nat.add_assoc]
theorem NX.takes {w:World} {E c i:Nat} {ns:List Nd} {cur:Array Value} (h3:cur.toList.take (ns.length * 3)=flatN ns) (hi:i ≤ ns.length):cur.toList.take (i * 3)=(flatN ns).take (i * 3):=by
  rw [← h3,List.take_take]; congr 1; omega
theorem NX.shrink {w:World} {E c i j:Nat} {ns vs:List Nd} (h:NX w E c ns) (hi:i + vs.length ≤ j) (hj:j ≤ ns.length) :
    NX ((w.setCells E (i * 3) (flatN vs)).drew.setCells E ((i + vs.length) * 3) (flatN (ns.drop j))) E c (rplN ns i j vs)∧w.grownBy ((w.setCells E (i * 3) (flatN vs)).drew.setCells E ((i + vs.length) * 3) (flatN (ns.drop j))) (some E):=by
  obtain ⟨cur,h1,h2,h3⟩:=h.row
  have hle:=h.le
  have e1:=heap_cells E _ (flatN vs) (i * 3) w cur h1 (by rw [flatN_len]; omega)
  have e1d:(w.setCells E (i * 3) (flatN vs)).drew.heap[E]?=_:=e1
  have s1:=spl_size cur (i * 3) (flatN vs) (by rw [flatN_len]; omega)
  have hd:(flatN (ns.drop j)).length=(ns.length - j) * 3:=by rw [flatN_len,List.length_drop]
  have e2:=heap_cells E _ (flatN (ns.drop j)) ((i + vs.length) * 3) _ _ e1d (by rw [s1,hd]; omega)
  have hrl:=rplN_len ns i j vs (by omega) hj
  refine ⟨⟨⟨_,e2,by rw [spl_size _ _ _ (by rw [s1,hd]; omega),s1,h2],?_⟩,by rw [hrl]; omega,h.max⟩,grown_trans (grown_trans (grown_cells E _ _ _) (grown_drew _ _)) (grown_cells E _ _ _)⟩
  rw [rplN_flat ns i j vs (by omega) hj,show (rplN ns i j vs).length * 3=(i + vs.length) * 3 + (flatN (ns.drop j)).length by rw [hrl,hd]; omega,spl_take2 _ _ _ (by rw [s1]; omega),show (i + vs.length) * 3=i * 3 + (flatN vs).length by rw [flatN_len]; omega,spl_take2 _ _ _ (by omega),flatN_drop ns j hj,NX.takes (w:=w) (E:=E) (c:=c) h3 (by omega),List.append_assoc]
theorem NX.widen {w:World} {E c i j:Nat} {ns vs:List Nd} (h:NX w E c ns) (hij:i ≤ j) (hj:j ≤ ns.length) (hroom:i + vs.length + (ns.length - j) ≤ c) :
    NX ((w.drew.setCells E ((i + vs.length) * 3) (flatN (ns.drop j))).setCells E (i * 3) (flatN vs)) E c (rplN ns i j vs)∧w.grownBy ((w.drew.setCells E ((i + vs.length) * 3) (flatN (ns.drop j))).setCells E (i * 3) (flatN vs)) (some E):=by
  obtain ⟨cur,h1,h2,h3⟩:=h.row
  have hle:=h.le
  have h1d:w.drew.heap[E]?=some (.cells cur 57):=h1
  have hd:(flatN (ns.drop j)).length=(ns.length - j) * 3:=by rw [flatN_len,List.length_drop]
  have e1:=heap_cells E _ (flatN (ns.drop j)) ((i + vs.length) * 3) w.drew cur h1d (by rw [hd]; omega)
  have s1:=spl_size cur ((i + vs.length) * 3) (flatN (ns.drop j)) (by rw [hd]; omega)
  have hv:=flatN_len vs
  have e2:=heap_cells E _ (flatN vs) (i * 3) _ _ e1 (by rw [s1,hv]; omega)
  have hrl:=rplN_len ns i j vs (by omega) hj
  refine ⟨⟨⟨_,e2,by rw [spl_size _ _ _ (by rw [s1,hv]; omega),s1,h2],?_⟩,by rw [hrl]; omega,h.max⟩,grown_trans (grown_trans (grown_drew _ _) (grown_cells E _ _ _)) (grown_cells E _ _ _)⟩
  rw [rplN_flat ns i j vs (by omega) hj,hrl,spl_take3 _ _ _ _ (by rw [hv]; omega) (by rw [s1]; omega)]
  rw [spl_take _ _ _ _ (by omega) (by omega),show (i + vs.length + (ns.length - j)) * 3=(i + vs.length) * 3 + (flatN (ns.drop j)).length by rw [hd]; omega,spl_take2 _ _ _ (by omega),hv,show i * 3 + vs.length * 3=(i + vs.length) * 3 by omega,List.drop_left' (by simp; omega),NX.takes (w:=w) (E:=E) (c:=c) h3 (by omega),flatN_drop ns j hj]
theorem NX.fill {W:World} {E c i j:Nat} {ns vs:List Nd} {cur:Array Value} (h1:W.heap[E]?=some (.cells cur 57)) (h2:cur.size=c * 3) (hmax:c ≤ maxLen) (h3:cur.toList.take (i * 3)=flatN (ns.take i)) (hij:i ≤ j) (hj:j ≤ ns.length) (hroom:i + vs.length + (ns.length - j) ≤ c) :
    NX ((W.setCells E (i * 3) (flatN vs)).drew.setCells E ((i + vs.length) * 3) (flatN (ns.drop j))) E c (rplN ns i j vs)∧W.grownBy ((W.setCells E (i * 3) (flatN vs)).drew.setCells E ((i + vs.length) * 3) (flatN (ns.drop j))) (some E):=by
  have hv:=flatN_len vs
  have e1:=heap_cells E _ (flatN vs) (i * 3) W cur h1 (by rw [hv]; omega)
  have e1d:(W.setCells E (i * 3) (flatN vs)).drew.heap[E]?=_:=e1
  have s1:=spl_size cur (i * 3) (flatN vs) (by rw [hv]; omega)
  have hd:(flatN (ns.drop j)).length=(ns.length - j) * 3:=by rw [flatN_len,List.length_drop]
  have e2:=heap_cells E _ (flatN (ns.drop j)) ((i + vs.length) * 3) _ _ e1d (by rw [s1,hd]; omega)
  have hrl:=rplN_len ns i j vs (by omega) hj
  refine ⟨⟨⟨_,e2,by rw [spl_size _ _ _ (by rw [s1,hd]; omega),s1,h2],?_⟩,by rw [hrl]; omega,hmax⟩,grown_trans (grown_trans (grown_cells E _ _ _) (grown_drew _ _)) (grown_cells E _ _ _)⟩
  rw [rplN_flat ns i j vs (by omega) hj,show (rplN ns i j vs).length * 3=(i + vs.length) * 3 + (flatN (ns.drop j)).length by rw [hrl,hd]; omega,spl_take2 _ _ _ (by rw [s1]; omega),show (i + vs.length) * 3=i * 3 + (flatN vs).length by rw [flatN_len]; omega,spl_take2 _ _ _ (by omega),flatN_drop ns j hj,h3,flatN_take ns i (by omega),List.append_assoc]
end Go.Proofs.YtjnbjfjoejfmpaaGreatDoor
namespace Go.Proofs.YtjnbjfjoejfmpaaGreatDoor
open Go.RowKit
set_option linter.unusedVariables false
theorem NX.dropAt {w:World} {E c:Nat} {ns:List Nd} (h:NX w E c ns) (j:Nat) (hj:j ≤ ns.length):∀ t v,(flatN (ns.drop j))[t]?=some v → w.cell? ((⟨E,j * 3,none⟩:Addr).add t)=some v:=fun t v ht=>by
  rw [Addr.add_lit]
  refine h.cellAt _ _ ?_
  rw [flatN_drop ns j hj,List.getElem?_drop] at ht
  exact ht
theorem grown_dn (w:World) (n:Nat) (r:Option Nat):w.grownBy (w.drewN n) r:=⟨rfl,rfl,rfl,Nat.le_refl _,fun _ _ _=>rfl⟩
set_option maxHeartbeats 4000000 in
set_option maxRecDepth 100000 in
theorem repl_widen (b0 X i j vc:Nat) (vs:List Nd) (hvs:vs.length ≤ 3) (E c:Nat) (ns:List Nd) (hl:ns.length ≤ 1073741824) (w:World) (hbE:b0 ≤ E) (hB:NX w E c ns) (hij:i < j) (hj:j < ns.length) (hX:VX w X vs) (hXE:X ≠ E) (hroom:i + vs.length + (ns.length - j) ≤ c) (hw:j < i + vs.length) :
    Calls Tryz.prog 59 #[.slice (some ⟨E,0,none⟩) ns.length c,.int .i64 (i:Int),.int .i64 (j:Int),.slice (some ⟨X,0,none⟩) vs.length vc] w fun r w'=>∃ v',r=.returned v'∧NBec w w' b0 (.slice (some ⟨E,0,none⟩) ns.length c) v' (rplN ns i j vs):=by
  have hle:=hB.le
  have hcm:=hB.max
  have hrl:=rplN_len ns i j vs (by omega) (by omega)
  obtain ⟨q,hq⟩:∃ q,i + vs.length=q:=⟨_,rfl⟩
  obtain ⟨u,hu⟩:∃ u,ns.length - j=u:=⟨_,rfl⟩
  obtain ⟨t,ht⟩:∃ t,q + u=t:=⟨_,rfl⟩
  rw [hq,hu] at hroom
  have hz2:¬ ((i:Int)=(j:Int)):=by omega
  have hz3:¬ ((j:Int)=(ns.length:Int)):=by omega
  have hb4:¬ (c=i):=by omega
  have hb2:¬ (c=q):=by omega
  have hb5:¬ (c=j):=by omega
  have hw1:IntKind.i64.wrap ((i:Int) + (vs.length:Int))=(q:Int):=by rw [IntKind.wrap_i64] <;> omega
  have hw2:IntKind.i64.wrap ((q:Int) + (u:Int))=(t:Int):=by rw [IntKind.wrap_i64] <;> omega
  have hb6:¬ ((c:Int) < (t:Int)):=by omega
  have hb7:(t:Int) ≤ (c:Int):=by omega
  have hb8:¬ ((q:Int) ≤ (j:Int)):=by omega
  have hb9:(q:Int) ≤ (t:Int):=by omega
  have hb10:(i:Int) ≤ (t:Int):=by omega
  have hqt:t - q=u:=by omega
  have hb11:(i:Int) ≤ (j:Int):=by omega
  have hb12:(j:Int) ≤ (ns.length:Int):=by omega
  have hic:(i:Int) ≤ (c:Int):=by omega
  have hjc:(j:Int) ≤ (c:Int):=by omega
  have HB:Hid (NX w E c ns):=hB
  have HX:Hid (VX w X vs):=hX
  clear hB hX
  go_enter Tryz.func59,Tryz.ntmps59
  go_wp2_with fail
  go_quiet (fail)
  have hB:NX (w.drewN nq) E c ns:=HB.out.same rfl
  have hX:VX (w.drewN nq) X vs:=HX.out.same rfl
  have HG:Hid (w.grownBy (w.drewN nq) (some E)):=grown_dn w nq _
  generalize w.drewN nq=w0 at *
  clear HB HX
  have hroomN:i + vs.length + (ns.length - j) ≤ c:=by omega
  have HSH:=hB.widen (by omega) (by omega) hroomN
  obtain ⟨cur,h1,h2,h3⟩:=hB.row
  obtain ⟨cx,x1,x2,x3,x4⟩:=hX.row
  have hov:∀ la ca lb cb,(callFunc 97 #[.slice (some ⟨E,q * 3,none⟩) la ca,.slice (some ⟨X,0,none⟩) lb cb]).run Tryz.prog w0=.ok (.value (.bool false)) w0:=fun la ca lb cb=>overlaps_no w0 E X la ca lb cb (q * 3) 0 (fun e=>hXE e.symm) cur cx h1 x1 x4
  rw [hq] at HSH
  have HRES:Hid (NBec w ((w0.drew.setCells E (q * 3) (flatN (ns.drop j))).setCells E (i * 3) (flatN vs)) b0 (.slice (some ⟨E,0,none⟩) ns.length c) (.slice (some ⟨E,0,none⟩) t c) (rplN ns i j vs)):=⟨Or.inr ⟨E,c,by rw [hrl,hq,hu,ht],hbE,HSH.1⟩,grown_trans HG.out HSH.2,fun E' h=>Or.inl (by simpa [Value.ownBlock] using h)⟩
  have h1d:w0.drew.heap[E]?=some (.cells cur 57):=h1
  have hfl:(flatN (ns.drop j)).length=u * 3:=by rw [flatN_len,List.length_drop,hu]
  have hcp1:∀ ty dc sc,(Builtin.copy_ #[69,69] ty #[.slice (some ⟨E,q * 3,none⟩) u dc,.slice (some ⟨E,j * 3,none⟩) u sc]).run Tryz.prog w0.drew=.ok (goInt (Nat.min u u)) (w0.drew.setCells E (q * 3) (flatN (ns.drop j))):=fun ty dc sc =>
    run_copy3 w0.drew ty E (q * 3) u dc ⟨E,j * 3,none⟩ u sc (flatN (ns.drop j)) (by rw [hfl]; simp) (fun k v hk=>(hB.dropAt j (by omega)) k v hk)
      (fun k hk=>by rw [cell_of_row _ _ _ _ _ _ h1d,Array.getElem?_eq_getElem (by omega)]; rfl) (fun k hk=>frozen_of_row _ _ _ _ _ h1d) (flatN_one _)
  obtain ⟨W1,hW1⟩:∃ W1,W1=w0.drew.setCells E (q * 3) (flatN (ns.drop j)):=⟨_,rfl⟩
  have r1:=heap_cells E _ (flatN (ns.drop j)) (q * 3) w0.drew cur h1d (by rw [hfl]; omega)
  have s1:=spl_size cur (q * 3) (flatN (ns.drop j)) (by rw [hfl]; omega)
  rw [← hW1] at r1 hcp1 HRES
  have hXW:VX W1 X vs:=hX.same (by rw [hW1,(grown_cells E _ _ w0.drew).block X hX.lt (by simpa using hXE)]; rfl)
  obtain ⟨k,hk⟩:∃ k,t - i=k:=⟨_,rfl⟩
  have hcp2:∀ ty dc,(Builtin.copy_ #[69,69] ty #[.slice (some ⟨E,i * 3,none⟩) k dc,.slice (some ⟨X,0,none⟩) vs.length vc]).run Tryz.prog W1=.ok (goInt (Nat.min vs.length k)) (W1.setCells E (i * 3) (flatN vs)):=fun ty dc =>
    run_copy3 W1 ty E (i * 3) k dc ⟨X,0,none⟩ vs.length vc (flatN vs) (by rw [flatN_len]; simp only [Nat.min_def]; split <;> omega) hXW.cells
      (fun a ha=>by rw [flatN_len] at ha; rw [cell_of_row _ _ _ _ _ _ r1,Array.getElem?_eq_getElem (by omega)]; rfl) (fun a ha=>frozen_of_row _ _ _ _ _ r1) (flatN_one _)
  have mixed:Tryz.prog.follows Departure.mixedOrders=true:=by kernel_rfl
  clear HSH h1 h1d r1 hXW hB hX x1 x2 x3 h3
  subst hW1
  go_wp2_with (simp only [hov])
  go_region_law_o (refine step_copy_runI rfl _ _ 69 69 rfl _ _ (by simp [Act.eval,Act.put]) (by simp [Act.eval,Act.put]) (hcp1 _ _ _) ?_)
  go_wp2
  go_returns
  exact ⟨_,rfl,HRES.out⟩
end Go.Proofs.YtjnbjfjoejfmpaaGreatDoor
namespace Go.Proofs.YtjnbjfjoejfmpaaGreatDoor
open Go.RowKit
set_option linter.unusedVariables false
set_option maxHeartbeats 4000000 in
set_option maxRecDepth 100000 in
theorem repl_shrink (b0 X i j vc:Nat) (vs:List Nd) (hvs:vs.length ≤ 3) (E c:Nat) (ns:List Nd) (hl:ns.length ≤ 1073741824) (w:World) (hbE:b0 ≤ E) (hB:NX w E c ns) (hij:i < j) (hj:j < ns.length) (hX:VX w X vs) (hXE:X ≠ E) (hw:i + vs.length ≤ j) :
    Calls Tryz.prog 59 #[.slice (some ⟨E,0,none⟩) ns.length c,.int .i64 (i:Int),.int .i64 (j:Int),.slice (some ⟨X,0,none⟩) vs.length vc] w fun r w'=>∃ v',r=.returned v'∧NBec w w' b0 (.slice (some ⟨E,0,none⟩) ns.length c) v' (rplN ns i j vs):=by
  have hle:=hB.le
  have hcm:=hB.max
  have hrl:=rplN_len ns i j vs (by omega) (by omega)
  obtain ⟨q,hq⟩:∃ q,i + vs.length=q:=⟨_,rfl⟩
  obtain ⟨u,hu⟩:∃ u,ns.length - j=u:=⟨_,rfl⟩
  obtain ⟨t,ht⟩:∃ t,q + u=t:=⟨_,rfl⟩
  have hz2:¬ ((i:Int)=(j:Int)):=by omega
  have hz3:¬ ((j:Int)=(ns.length:Int)):=by omega
  have hb4:¬ (c=i):=by omega
  have hb2:¬ (c=q):=by omega
  have hb5:¬ (c=j):=by omega
  have hw1:IntKind.i64.wrap ((i:Int) + (vs.length:Int))=(q:Int):=by rw [IntKind.wrap_i64] <;> omega
  have hw2:IntKind.i64.wrap ((q:Int) + (u:Int))=(t:Int):=by rw [IntKind.wrap_i64] <;> omega
  have hb6:¬ ((c:Int) < (t:Int)):=by omega
  have hb7:(t:Int) ≤ (c:Int):=by omega
  have hb8:((q:Int) ≤ (j:Int)):=by omega
  have hb9:(q:Int) ≤ (t:Int):=by omega
  have hb10:(i:Int) ≤ (t:Int):=by omega
  have hqt:t - q=u:=by omega
  have hb11:(i:Int) ≤ (j:Int):=by omega
  have hb12:(j:Int) ≤ (ns.length:Int):=by omega
  obtain ⟨k,hk⟩:∃ k,t - i=k:=⟨_,rfl⟩
  obtain ⟨z,hz⟩:∃ z,ns.length - t=z:=⟨_,rfl⟩
  have hb13:(t:Int) ≤ (ns.length:Int):=by omega
  have hic:(i:Int) ≤ (c:Int):=by omega
  have hjc:(j:Int) ≤ (c:Int):=by omega
  have HB:Hid (NX w E c ns):=hB
  have HX:Hid (VX w X vs):=hX
  clear hB hX
  go_enter Tryz.func59,Tryz.ntmps59
  go_wp2_with fail
  go_quiet (fail)
  have hB:NX (w.drewN nq) E c ns:=HB.out.same rfl
  have hX:VX (w.drewN nq) X vs:=HX.out.same rfl
  have HG:Hid (w.grownBy (w.drewN nq) (some E)):=grown_dn w nq _
  generalize w.drewN nq=w0 at *
  clear HB HX
  have HSH:=hB.shrink (vs:=vs) (by omega) (show j ≤ ns.length by omega)
  obtain ⟨cur,h1,h2,h3⟩:=hB.row
  obtain ⟨cx,x1,x2,x3,x4⟩:=hX.row
  rw [hq] at HSH
  have hfl:(flatN (ns.drop j)).length=u * 3:=by rw [flatN_len,List.length_drop,hu]
  have hcp1:∀ ty dc,(Builtin.copy_ #[69,69] ty #[.slice (some ⟨E,i * 3,none⟩) k dc,.slice (some ⟨X,0,none⟩) vs.length vc]).run Tryz.prog w0=.ok (goInt (Nat.min vs.length k)) (w0.setCells E (i * 3) (flatN vs)):=fun ty dc =>
    run_copy3 w0 ty E (i * 3) k dc ⟨X,0,none⟩ vs.length vc (flatN vs) (by rw [flatN_len]; simp only [Nat.min_def]; split <;> omega) hX.cells
      (fun a ha=>by rw [flatN_len] at ha; rw [cell_of_row _ _ _ _ _ _ h1,Array.getElem?_eq_getElem (by omega)]; rfl) (fun a ha=>frozen_of_row _ _ _ _ _ h1) (flatN_one _)
  obtain ⟨W1,hW1⟩:∃ W1,W1=w0.setCells E (i * 3) (flatN vs):=⟨_,rfl⟩
  have r1:=heap_cells E _ (flatN vs) (i * 3) w0 cur h1 (by rw [flatN_len]; omega)
  have s1:=spl_size cur (i * 3) (flatN vs) (by rw [flatN_len]; omega)
  rw [← hW1] at r1 hcp1 HSH
  have r1d:W1.drew.heap[E]?=_:=r1
  have hdr:∀ t v,(flatN (ns.drop j))[t]?=some v → W1.drew.cell? ((⟨E,j * 3,none⟩:Addr).add t)=some v:=fun t v ht=>by
    have h0:=hB.dropAt j (by omega) t v ht
    rw [Addr.add_lit] at h0 ⊢
    show W1.cell? _=_
    rw [hW1,World.cell?_setCells_out E _ _ w0 ⟨E,j * 3 + t,none⟩ (fun _ _=>Or.inr (by rw [flatN_len]; show _ ≤ j * 3 + t; omega))]
    exact h0
  have hcp2:∀ ty dc sc,(Builtin.copy_ #[69,69] ty #[.slice (some ⟨E,q * 3,none⟩) u dc,.slice (some ⟨E,j * 3,none⟩) u sc]).run Tryz.prog W1.drew=.ok (goInt (Nat.min u u)) (W1.drew.setCells E (q * 3) (flatN (ns.drop j))):=fun ty dc sc =>
    run_copy3 W1.drew ty E (q * 3) u dc ⟨E,j * 3,none⟩ u sc (flatN (ns.drop j)) (by rw [hfl]; simp) hdr
      (fun k hk=>by rw [cell_of_row _ _ _ _ _ _ r1d,Array.getElem?_eq_getElem (by omega)]; rfl) (fun k hk=>frozen_of_row _ _ _ _ _ r1d) (flatN_one _)
  obtain ⟨W2,hW2⟩:∃ W2,W2=W1.drew.setCells E (q * 3) (flatN (ns.drop j)):=⟨_,rfl⟩
  have r2:=heap_cells E _ (flatN (ns.drop j)) (q * 3) W1.drew _ r1d (by rw [s1,hfl]; omega)
  have s2:=spl_size (spl cur (i * 3) (flatN vs)) (q * 3) (flatN (ns.drop j)) (by rw [s1,hfl]; omega)
  rw [← hW2] at r2 hcp2 HSH
  have hcl:∀ ty cc,Sem.run Tryz.prog (Builtin.clear_ #[69] ty #[.slice (some ⟨E,t * 3,none⟩) z cc]) W2=.ok (.tuple #[]) (W2.setCells E (t * 3) (zeroN z)):=fun ty cc=>run_clrN E (t * 3) z cc ty W2 _ r2 (by rw [s2,s1]; omega)
  have HRES:Hid (NBec w (W2.setCells E (t * 3) (zeroN z)) b0 (.slice (some ⟨E,0,none⟩) ns.length c) (.slice (some ⟨E,0,none⟩) t c) (rplN ns i j vs)):=⟨Or.inr ⟨E,c,by rw [hrl,hq,hu,ht],hbE,HSH.1.clr (by rw [hrl,hq,hu,ht]; omega) (by omega)⟩,grown_trans (grown_trans HG.out HSH.2) (grown_cells E _ _ _),fun E' h=>Or.inl (by simpa [Value.ownBlock] using h)⟩
  have hz0':zeroN 0=[]:=by unfold zeroN Builtin.zeroCells; simp
  have hcl0:∀ ty cc,Sem.run Tryz.prog (Builtin.clear_ #[69] ty #[.slice (some ⟨E,0,none⟩) 0 cc]) W2=.ok (.tuple #[]) W2:=fun ty cc=>by
    have:=run_clrN E 0 0 cc ty W2 _ r2 (by omega)
    rw [hz0'] at this; exact this
  have mixed:Tryz.prog.follows Departure.mixedOrders=true:=by kernel_rfl
  clear HSH h1 r1 r1d r2 hB hX x1 x2 x3 h3 hdr
  rcases Nat.eq_or_lt_of_le (show t ≤ c by omega) with hct | hct
  · have hzz:z=0:=by omega
    subst hzz
    have hnl:ns.length=t:=by omega
    rw [hz0'] at HRES
    clear hz
    subst hct
    have htj:t - j=u:=by omega
    subst hW2
    subst hW1
    go_wp2
    go_region_law_o (refine step_copy_runI rfl _ _ 69 69 rfl _ _ (by simp [Act.eval,Act.put]) (by simp [Act.eval,Act.put]) (hcp2 _ _ _) ?_)
    go_wp2
    go_returns
    refine ⟨_,rfl,?_⟩
    first | exact HRES.out | (rw [hnl]; exact HRES.out) | (have:=HRES.out; rw [hnl] at this; exact this)
  · have hct':¬ (c=t):=by omega
    clear hct
    subst hW2
    subst hW1
    go_wp2
    go_region_law_o (refine step_copy_runI rfl _ _ 69 69 rfl _ _ (by simp [Act.eval,Act.put]) (by simp [Act.eval,Act.put]) (hcp2 _ _ _) ?_)
    go_wp2
    go_returns
    exact ⟨_,rfl,HRES.out⟩
end Go.Proofs.YtjnbjfjoejfmpaaGreatDoor
namespace Go.Proofs.YtjnbjfjoejfmpaaGreatDoor
open Go.RowKit
set_option linter.unusedVariables false
set_option maxHeartbeats 4000000 in
set_option maxRecDepth 100000 in
theorem repl_grow (b0 X i j vc:Nat) (vs:List Nd) (hvs:vs.length ≤ 3) (E c:Nat) (ns:List Nd) (hl:ns.length ≤ 1073741824) (w:World) (hB:NX w E c ns) (hij:i < j) (hj:j < ns.length) (hX:VX w X vs) (hXE:X ≠ E) (hb0:b0 ≤ w.heap.size) (hroom:c < i + vs.length + (ns.length - j)) :
    Calls Tryz.prog 59 #[.slice (some ⟨E,0,none⟩) ns.length c,.int .i64 (i:Int),.int .i64 (j:Int),.slice (some ⟨X,0,none⟩) vs.length vc] w fun r w'=>∃ v',r=.returned v'∧NBec w w' b0 (.slice (some ⟨E,0,none⟩) ns.length c) v' (rplN ns i j vs):=by
  have hle:=hB.le
  have hcm:=hB.max
  have hrl:=rplN_len ns i j vs (by omega) (by omega)
  obtain ⟨q,hq⟩:∃ q,i + vs.length=q:=⟨_,rfl⟩
  obtain ⟨u,hu⟩:∃ u,ns.length - j=u:=⟨_,rfl⟩
  obtain ⟨t,ht⟩:∃ t,q + u=t:=⟨_,rfl⟩
  rw [hq,hu] at hroom
  have hz2:¬ ((i:Int)=(j:Int)):=by omega
  have hz3:¬ ((j:Int)=(ns.length:Int)):=by omega
  have hb4:¬ (c=i):=by omega
  have hb5:¬ (c=j):=by omega
  have hw1:IntKind.i64.wrap ((i:Int) + (vs.length:Int))=(q:Int):=by rw [IntKind.wrap_i64] <;> omega
  have hw2:IntKind.i64.wrap ((q:Int) + (u:Int))=(t:Int):=by rw [IntKind.wrap_i64] <;> omega
  have hb9:(q:Int) ≤ (t:Int):=by omega
  have hb10:(i:Int) ≤ (t:Int):=by omega
  have hqt:t - q=u:=by omega
  have hb11:(i:Int) ≤ (j:Int):=by omega
  have hb12:(j:Int) ≤ (ns.length:Int):=by omega
  have hb6:((c:Int) < (t:Int)):=by omega
  obtain ⟨k,hk⟩:∃ k,t - i=k:=⟨_,rfl⟩
  have hw3:IntKind.i64.wrap ((t:Int) - (i:Int))=(k:Int):=by rw [IntKind.wrap_i64] <;> omega
  have hik:i + k=t:=by omega
  have hic:(i:Int) ≤ (c:Int):=by omega
  have hjc:(j:Int) ≤ (c:Int):=by omega
  have HB:Hid (NX w E c ns):=hB
  have HX:Hid (VX w X vs):=hX
  clear hB hX
  go_enter Tryz.func59,Tryz.ntmps59
  go_wp2_with fail
  go_quiet (fail)
  have hB:NX (w.drewN nq) E c ns:=HB.out.same rfl
  have hX:VX (w.drewN nq) X vs:=HX.out.same rfl
  have HG:Hid (w.grownBy (w.drewN nq) none):=grown_dn w nq _
  generalize w.drewN nq=w0 at *
  clear HB HX
  obtain ⟨i0,hi0,hz0,hz1,hz2'⟩:=info_parts infoN
  have hcs:∀ a v,(flatN (ns.take i))[a]?=some v → w0.drew.cell? ((⟨E,0,none⟩:Addr).add a)=some v:=fun a v ha=>by
    have:=World.ownsRow.cells (hB.ownTake (Nat.zero_le E) i (by omega)) (g:=E) rfl a v ha
    exact this
  have hfi:(flatN (ns.take i)).length=i * 3:=by rw [flatN_len,List.length_take]; congr 1; omega
  have hold:(Builtin.firstCells i0.size i (.slice (some ⟨E,0,none⟩) i c)).run Tryz.prog w0.drew=.ok (flatN (ns.take i)).toArray w0.drew:=by
    rw [hz1]; exact run_firstCells_some w0.drew 3 i ⟨E,0,none⟩ i c (flatN (ns.take i)) hfi hcs
  have hrun:∀ ty,(Builtin.append_ #[69,3] ty #[.slice (some ⟨E,0,none⟩) i c,.int .i64 (k:Int)]).run Tryz.prog w0=_:=fun ty =>
    Lib.run_append_grow_zeros w0 69 3 ty 57 i0 _ .i64 .i64 Tryz.underlying69 Tryz.underlying3 hi0 hz0 (some ⟨E,0,none⟩) i c (flatN (ns.take i)) hold k (by omega) (by omega) (by omega) (by omega) (by rw [hz2']; omega) (by rw [hz2']; exact growslice_fits (by omega) (by omega))
  obtain ⟨c',hc'⟩:∃ c',grownCap w0 (i + k) c 57=c':=⟨_,rfl⟩
  have hc1:i + k ≤ c':=by rw [← hc']; exact grownCap_ge w0 (i + k) c 57
  have hcm':c' ≤ maxLen:=by rw [← hc']; exact grownCap_le_maxLen w0 (i + k) c 57 (by unfold maxLen; omega)
  rw [hc'] at hrun
  obtain ⟨CUR,hCUR⟩:∃ CUR,CUR=(flatN (ns.take i)).toArray ++ Builtin.zeroCells (Value.cells (.agg #[.string ⟨#[]⟩,.int .i64 0,.bool false])) k ++ Builtin.zeroCells (Value.cells (.agg #[.string ⟨#[]⟩,.int .i64 0,.bool false])) (c' - (i + k)):=⟨_,rfl⟩
  rw [← hCUR] at hrun
  obtain ⟨W1,hW1⟩:∃ W1,W1=w0.drew.alloc (.cells CUR 57):=⟨_,rfl⟩
  rw [← hW1] at hrun
  have hbw:Below w0.heap.size w0 W1:=by rw [hW1]; exact (Below.refl _ w0).drew.alloc (Nat.le_refl _) _
  have hXW:VX W1 X vs:=hX.same (hbw.block X hX.lt)
  have hBE:NX W1 E c ns:=hB.on hbw
  have r0:W1.heap[w0.heap.size]?=some (.cells CUR 57):=by rw [hW1]; exact one_alloc w0.drew _
  have s0:CUR.size=c' * 3:=by
    rw [hCUR]; simp only [Array.size_append,size_zeroCells,List.size_toArray,hfi]
    rw [show (Value.cells (.agg #[.string ⟨#[]⟩,.int .i64 0,.bool false])).size=3 from rfl]; omega
  have hgl:CUR.toList.take (i * 3)=flatN (ns.take i):=by
    rw [hCUR]; simp only [Array.toList_append,List.append_assoc]; rw [← hfi]; exact List.take_left
  have HF:=NX.fill (vs:=vs) r0 s0 hcm' hgl (show i ≤ j by omega) (show j ≤ ns.length by omega) (by omega)
  rw [hq] at HF
  have HRES:Hid (NBec w ((W1.setCells w0.heap.size (i * 3) (flatN vs)).drew.setCells w0.heap.size (q * 3) (flatN (ns.drop j))) b0 (.slice (some ⟨E,0,none⟩) ns.length c) (.slice (some ⟨w0.heap.size,0,none⟩) t c') (rplN ns i j vs)):=by
    refine ⟨Or.inr ⟨w0.heap.size,c',by rw [hrl,hq,hu,ht],Nat.le_trans hb0 HG.out.size,HF.1⟩,?_,fun E' h=>Or.inr (by simp [Value.ownBlock] at h; have:=HG.out.size; omega)⟩
    have hg1:w0.grownBy ((W1.setCells w0.heap.size (i * 3) (flatN vs)).drew.setCells w0.heap.size (q * 3) (flatN (ns.drop j))) none:=
      ⟨HF.2.os.trans hbw.os,HF.2.tape.trans hbw.tape,HF.2.output.trans hbw.output,Nat.le_trans hbw.size HF.2.size,fun y hy _=>(HF.2.block y (Nat.lt_of_lt_of_le hy hbw.size) (by simp; omega)).trans (hbw.block y hy)⟩
    exact grown_wide (grown_trans HG.out hg1)
  have hcp1:∀ ty dc,(Builtin.copy_ #[69,69] ty #[.slice (some ⟨w0.heap.size,i * 3,none⟩) k dc,.slice (some ⟨X,0,none⟩) vs.length vc]).run Tryz.prog W1=.ok (goInt (Nat.min vs.length k)) (W1.setCells w0.heap.size (i * 3) (flatN vs)):=fun ty dc =>
    run_copy3 W1 ty w0.heap.size (i * 3) k dc ⟨X,0,none⟩ vs.length vc (flatN vs) (by rw [flatN_len]; simp only [Nat.min_def]; split <;> omega) hXW.cells
      (fun a ha=>by rw [flatN_len] at ha; rw [cell_of_row _ _ _ _ _ _ r0,Array.getElem?_eq_getElem (by omega)]; rfl) (fun a ha=>frozen_of_row _ _ _ _ _ r0) (flatN_one _)
  obtain ⟨W2,hW2⟩:∃ W2,W2=W1.setCells w0.heap.size (i * 3) (flatN vs):=⟨_,rfl⟩
  have r1:=heap_cells w0.heap.size _ (flatN vs) (i * 3) W1 CUR r0 (by rw [flatN_len]; omega)
  have s1:=spl_size CUR (i * 3) (flatN vs) (by rw [flatN_len]; omega)
  have hBE2:NX W2 E c ns:=hBE.same (by rw [hW2,(grown_cells w0.heap.size _ _ W1).block E hBE.lt (by have:=hB.lt; simp; omega)])
  rw [← hW2] at r1 hcp1 HRES
  have r1d:W2.drew.heap[w0.heap.size]?=_:=r1
  have hfl:(flatN (ns.drop j)).length=u * 3:=by rw [flatN_len,List.length_drop,hu]
  have hcp2:∀ ty dc sc,(Builtin.copy_ #[69,69] ty #[.slice (some ⟨w0.heap.size,q * 3,none⟩) u dc,.slice (some ⟨E,j * 3,none⟩) u sc]).run Tryz.prog W2.drew=.ok (goInt (Nat.min u u)) (W2.drew.setCells w0.heap.size (q * 3) (flatN (ns.drop j))):=fun ty dc sc =>
    run_copy3 W2.drew ty w0.heap.size (q * 3) u dc ⟨E,j * 3,none⟩ u sc (flatN (ns.drop j)) (by rw [hfl]; simp) (hBE2.dropAt j (by omega))
      (fun k hk=>by rw [cell_of_row _ _ _ _ _ _ r1d,Array.getElem?_eq_getElem (by omega)]; rfl) (fun k hk=>frozen_of_row _ _ _ _ _ r1d) (flatN_one _)
  have hci:¬ (c'=i):=by omega
  have hcq:¬ (c'=q):=by omega
  have mixed:Tryz.prog.follows Departure.mixedOrders=true:=by kernel_rfl
  have HRUN:Hid _:=hrun
  obtain ⟨S,hS⟩:∃ S,w0.heap.size=S:=⟨_,rfl⟩
  rw [hS] at hcp1 hcp2 HRES HRUN
  rw [hik] at HRUN
  clear hold hcs hrun hc' hz2' hz1 hz0 hi0 hfi hcm' hbw hXW hBE r0 s0 hgl HF r1 r1d hBE2 hfl hCUR s1 hB hX hS hW1 HG
  subst hW2
  go_upto_region 11 with fail
  go_wp2_with (at_builtin; go_must (refine Lib.wpList_append_run _ rfl _ _ 69 3 rfl (.slice (some ⟨E,0,none⟩) i c) (.int .i64 (k:Int)) ?a1 ?a2 _ _ (HRUN.out _) ?_))
  case a1=>rfl
  case a2=>rfl
  go_region_law_o (refine step_copy_runI rfl _ _ 69 69 rfl _ _ (by simp [Act.eval,Act.put]) (by simp [Act.eval,Act.put]) (hcp2 _ _ _) ?_)
  go_wp2
  go_returns
  exact ⟨_,rfl,HRES.out⟩
end Go.Proofs.YtjnbjfjoejfmpaaGreatDoor
namespace Go.Proofs.YtjnbjfjoejfmpaaGreatDoor
open Go.RowKit
set_option linter.unusedVariables false
set_option maxHeartbeats 4000000 in
set_option maxRecDepth 100000 in
theorem ins_end (b0 X vc:Nat) (vs:List Nd) (hvs:vs.length ≤ 3) (hv1:1 ≤ vs.length) (nv:Value) (ns:List Nd) (hl:ns.length ≤ 1073741824) (w:World) (hb0:b0 ≤ w.heap.size) (hB:NV w b0 nv ns) (hX:VX w X vs) :
    Calls Tryz.prog 96 #[nv,.int .i64 (ns.length:Int),.slice (some ⟨X,0,none⟩) vs.length vc] w fun r w'=>∃ v',r=.returned v'∧NBec w w' b0 nv v' (ns ++ vs):=by
  obtain ⟨i0,hi0,hz0,hz1,hz2⟩:=info_parts infoN
  have HN:Hid _:=hX.cells
  have HFL:Hid (flatN ns ++ flatN vs=flatN (ns ++ vs)):=(flatN_app _ _).symm
  have h1c:∀ v ∈ flatN vs,v.oneCell'=true:=flatN_one vs
  obtain ⟨q,hq⟩:∃ q,ns.length + vs.length=q:=⟨_,rfl⟩
  have HLQ:Hid ((ns ++ vs).length=q):=by show _=_; rw [List.length_append,hq]
  have hq3:q ≤ 1073741827:=by omega
  have hm0:¬ ((vs.length:Int)=0):=by omega
  have hne:¬ (ns ++ vs=[]):=by intro e; have:=HLQ.out; rw [e] at this; simp at this; omega
  have HNE:Hid _:=hne
  clear hne
  rcases hB with ⟨rfl,rfl⟩ | ⟨E,c,rfl,hbE,hN⟩
  · clear hX
    have hq0:vs.length=q:=by simpa using hq
    clear hq
    subst hq0
    go_enter Tryz.func96,Tryz.ntmps96
    go_upto_region 7 with fail
    go_wp2_with (at_builtin; go_must (refine wpList_append_grows _ rfl _ _ 69 rfl 57 i0 (.agg #[.string ⟨#[]⟩,.int .i64 0,.bool false]) 3 32 Tryz.underlying69 hi0 hz0 hz1 hz2 rfl (by decide) none 0 0 [] rfl (fun _=>⟨rfl,rfl⟩) rfl (fun b h=>by cases h) ⟨X,0,none⟩ vs.length vc (flatN vs) rfl (flatN_len vs) HN.out h1c (by omega) (by unfold maxLen; omega) (by omega) ?_))
    intro v' w1 hown hgr
    rcases NX.of hown rfl with ⟨_,h'⟩ | ⟨E',c',rfl,hE',hN⟩
    · exact absurd (by simp [h']) HNE.out
    have HR:Hid (NBec w w1 b0 (.slice none 0 0) (.slice (some ⟨E',0,none⟩) vs.length c') vs):=⟨Or.inr ⟨E',c',rfl,by omega,hN⟩,hgr,fun E h=>by right; simp [Value.ownBlock] at h; omega⟩
    clear hown hgr hE' hN
    go_wp2
    go_returns
    exact ⟨_,rfl,HR.out⟩
  · have HOW:Hid _:=hN.own hbE
    have hle:=hN.le
    have hmx:=hN.max
    by_cases hroom:ns.length + vs.length ≤ c
    · clear hX hN
      go_enter Tryz.func96,Tryz.ntmps96
      go_upto_region 7 with fail
      all_goals
       go_wp2_with (at_builtin; go_must (refine wpList_append_fits w rfl _ _ 69 rfl b0 57 i0 3 Tryz.underlying69 hi0 hz1 E ns.length c (flatN ns) rfl HOW.out ⟨X,0,none⟩ vs.length vc (flatN vs) rfl (flatN_len vs) HN.out h1c hroom ?_))
       intro w1 hown hgr
       rw [HFL.out] at hown
       rcases NX.of hown HLQ.out.symm with ⟨h',_⟩ | ⟨E',c',hv',hE',hN⟩
       · cases h'
       injection hv' with e1 e2 e3
       injection e1 with e1
       injection e1 with e1 _ _
       subst e1; subst e3
       have HR:Hid (NBec w w1 b0 (.slice (some ⟨E,0,none⟩) ns.length c) (.slice (some ⟨E,0,none⟩) q c) (ns ++ vs)):=by
         refine ⟨Or.inr ⟨E,c,by rw [HLQ.out],hbE,hN⟩,hgr,fun E' h=>Or.inl (by simpa [Value.ownBlock] using h)⟩
       clear hown hgr hN e2 hE' hroom
       go_wp2
       go_returns
       exact ⟨_,rfl,HR.out⟩
    · have HOL:Hid (∀ b,some (⟨E,0,none⟩:Addr)=some b → ∀ j u,(flatN ns)[j]?=some u → w.cell? (b.add j)=some u):=fun b hb j u hj=>by
        cases hb; exact World.ownsRow.cells HOW.out (g:=E) rfl j u hj
      have hfi:(flatN ns).length=ns.length * 3:=flatN_len ns
      clear hX hN
      go_enter Tryz.func96,Tryz.ntmps96
      go_upto_region 7 with fail
      all_goals
       go_wp2_with (at_builtin; go_must (refine wpList_append_grows _ rfl _ _ 69 rfl 57 i0 (.agg #[.string ⟨#[]⟩,.int .i64 0,.bool false]) 3 32 Tryz.underlying69 hi0 hz0 hz1 hz2 rfl (by decide) (some ⟨E,0,none⟩) ns.length c (flatN ns) rfl (fun h=>by cases h) hfi HOL.out ⟨X,0,none⟩ vs.length vc (flatN vs) rfl (flatN_len vs) HN.out h1c (by omega) (by unfold maxLen; omega) (by omega) ?_))
       all_goals
        intro v' w1 hown hgr
        rw [HFL.out] at hown
        rcases NX.of hown HLQ.out.symm with ⟨_,h'⟩ | ⟨E',c',rfl,hE',hN⟩
        · exact absurd h' HNE.out
        have HR:Hid (NBec w w1 b0 (.slice (some ⟨E,0,none⟩) ns.length c) (.slice (some ⟨E',0,none⟩) q c') (ns ++ vs)):=by
          refine ⟨Or.inr ⟨E',c',by rw [HLQ.out],by omega,hN⟩,grown_wide hgr,fun E2 h=>by right; simp [Value.ownBlock] at h; omega⟩
        rw [HLQ.out]
        clear hown hgr hN hE' hroom
        go_wp2
        go_returns
        exact ⟨_,rfl,HR.out⟩
end Go.Proofs.YtjnbjfjoejfmpaaGreatDoor
namespace Go.Proofs.YtjnbjfjoejfmpaaGreatDoor
open Go.RowKit
set_option linter.unusedVariables false
set_option maxHeartbeats 4000000 in
set_option maxRecDepth 100000 in
theorem ins_shift (b0 X i vc:Nat) (vs:List Nd) (hvs:vs.length ≤ 3) (hv1:1 ≤ vs.length) (E c:Nat) (ns:List Nd) (hl:ns.length ≤ 1073741824) (w:World) (hbE:b0 ≤ E) (hB:NX w E c ns) (hi:i < ns.length) (hX:VX w X vs) (hXE:X ≠ E) (hroom:ns.length + vs.length ≤ c) :
    Calls Tryz.prog 96 #[.slice (some ⟨E,0,none⟩) ns.length c,.int .i64 (i:Int),.slice (some ⟨X,0,none⟩) vs.length vc] w fun r w'=>∃ v',r=.returned v'∧NBec w w' b0 (.slice (some ⟨E,0,none⟩) ns.length c) v' (rplN ns i i vs):=by
  have HSH:=hB.widen (vs:=vs) (Nat.le_refl i) (by omega) (by omega)
  have hle:=hB.le
  have hcm:=hB.max
  obtain ⟨cur,h1,h2,h3⟩:=hB.row
  obtain ⟨cx,x1,x2,x3,x4⟩:=hX.row
  have hrl:=rplN_len ns i i vs (Nat.le_refl i) (by omega)
  obtain ⟨q,hq⟩:∃ q,i + vs.length=q:=⟨_,rfl⟩
  obtain ⟨u,hu⟩:∃ u,ns.length - i=u:=⟨_,rfl⟩
  obtain ⟨t,ht⟩:∃ t,ns.length + vs.length=t:=⟨_,rfl⟩
  have hce:cur.size ≠ 0:=by omega
  have hov:∀ la ca lb cb,(callFunc 97 #[.slice (some ⟨X,0,none⟩) la ca,.slice (some ⟨E,q * 3,none⟩) lb cb]).run Tryz.prog w=.ok (.value (.bool false)) w:=fun la ca lb cb=>overlaps_no w X E la ca lb cb 0 (q * 3) hXE cx cur x1 h1 hce
  rw [hq] at HSH
  have HRES:Hid (NBec w ((w.drew.setCells E (q * 3) (flatN (ns.drop i))).setCells E (i * 3) (flatN vs)) b0 (.slice (some ⟨E,0,none⟩) ns.length c) (.slice (some ⟨E,0,none⟩) t c) (rplN ns i i vs)):=⟨Or.inr ⟨E,c,by rw [hrl]; congr 1; omega,hbE,HSH.1⟩,HSH.2,fun E' h=>Or.inl (by simpa [Value.ownBlock] using h)⟩
  have h1d:w.drew.heap[E]?=some (.cells cur 57):=h1
  have hfl:(flatN (ns.drop i)).length=u * 3:=by rw [flatN_len,List.length_drop,hu]
  obtain ⟨k,hk⟩:∃ k,t - i=k:=⟨_,rfl⟩
  have hcp1:∀ ty dc sc,(Builtin.copy_ #[69,69] ty #[.slice (some ⟨E,q * 3,none⟩) u dc,.slice (some ⟨E,i * 3,none⟩) k sc]).run Tryz.prog w.drew=.ok (goInt (Nat.min k u)) (w.drew.setCells E (q * 3) (flatN (ns.drop i))):=fun ty dc sc =>
    run_copy3 w.drew ty E (q * 3) u dc ⟨E,i * 3,none⟩ k sc (flatN (ns.drop i)) (by rw [hfl]; simp only [Nat.min_def]; split <;> omega) (fun k v hk=>(hB.dropAt i (by omega)) k v hk)
      (fun k hk=>by rw [cell_of_row _ _ _ _ _ _ h1d,Array.getElem?_eq_getElem (by omega)]; rfl) (fun k hk=>frozen_of_row _ _ _ _ _ h1d) (flatN_one _)
  obtain ⟨W1,hW1⟩:∃ W1,W1=w.drew.setCells E (q * 3) (flatN (ns.drop i)):=⟨_,rfl⟩
  have r1:=heap_cells E _ (flatN (ns.drop i)) (q * 3) w.drew cur h1d (by rw [hfl]; omega)
  have s1:=spl_size cur (q * 3) (flatN (ns.drop i)) (by rw [hfl]; omega)
  rw [← hW1] at r1 hcp1 HRES
  have hXW:VX W1 X vs:=hX.same (by rw [hW1,(grown_cells E _ _ w.drew).block X hX.lt (by simpa using hXE)]; rfl)
  have hcp2:∀ ty dc,(Builtin.copy_ #[69,69] ty #[.slice (some ⟨E,i * 3,none⟩) k dc,.slice (some ⟨X,0,none⟩) vs.length vc]).run Tryz.prog W1=.ok (goInt (Nat.min vs.length k)) (W1.setCells E (i * 3) (flatN vs)):=fun ty dc =>
    run_copy3 W1 ty E (i * 3) k dc ⟨X,0,none⟩ vs.length vc (flatN vs) (by rw [flatN_len]; simp only [Nat.min_def]; split <;> omega) hXW.cells
      (fun a ha=>by rw [flatN_len] at ha; rw [cell_of_row _ _ _ _ _ _ r1,Array.getElem?_eq_getElem (by omega)]; rfl) (fun a ha=>frozen_of_row _ _ _ _ _ r1) (flatN_one _)
  have hm0:¬ ((vs.length:Int)=0):=by omega
  have hz2:¬ ((i:Int)=(ns.length:Int)):=by omega
  have hb4:¬ (c=i):=by omega
  have hb2:¬ (c=q):=by omega
  have hw1:IntKind.i64.wrap ((i:Int) + (vs.length:Int))=(q:Int):=by rw [IntKind.wrap_i64] <;> omega
  have hw2:IntKind.i64.wrap ((ns.length:Int) + (vs.length:Int))=(t:Int):=by rw [IntKind.wrap_i64] <;> omega
  have hb6:¬ ((c:Int) < (t:Int)):=by omega
  have hb7:(t:Int) ≤ (c:Int):=by omega
  have hb9:(q:Int) ≤ (t:Int):=by omega
  have hb10:(i:Int) ≤ (t:Int):=by omega
  have hqt:t - q=u:=by omega
  have hic:(i:Int) ≤ (c:Int):=by omega
  have hin:(i:Int) ≤ (ns.length:Int):=by omega
  have mixed:Tryz.prog.follows Departure.mixedOrders=true:=by kernel_rfl
  clear HSH h1 h1d r1 hXW hB hX x1 x2 x3 h3
  subst hW1
  go_enter Tryz.func96,Tryz.ntmps96
  go_wp2_with (simp only [hov])
  go_region_law_o (refine step_copy_runI rfl _ _ 69 69 rfl _ _ (by simp [Act.eval,Act.put]) (by simp [Act.eval,Act.put]) (hcp1 _ _ _) ?_)
  go_wp2
  go_returns
  exact ⟨_,rfl,HRES.out⟩
end Go.Proofs.YtjnbjfjoejfmpaaGreatDoor
namespace Go.Proofs.YtjnbjfjoejfmpaaGreatDoor
open Go.RowKit
set_option linter.unusedVariables false
set_option maxHeartbeats 4000000 in
set_option maxRecDepth 100000 in
theorem ins_grow (b0 X i vc:Nat) (vs:List Nd) (hvs:vs.length ≤ 3) (hv1:1 ≤ vs.length) (E c:Nat) (ns:List Nd) (hl:ns.length ≤ 1073741824) (w:World) (hB:NX w E c ns) (hi:i < ns.length) (hX:VX w X vs) (hb0:b0 ≤ w.heap.size) (hroom:c < ns.length + vs.length) :
    Calls Tryz.prog 96 #[.slice (some ⟨E,0,none⟩) ns.length c,.int .i64 (i:Int),.slice (some ⟨X,0,none⟩) vs.length vc] w fun r w'=>∃ v',r=.returned v'∧NBec w w' b0 (.slice (some ⟨E,0,none⟩) ns.length c) v' (rplN ns i i vs):=by
  have hle:=hB.le
  have hcm:=hB.max
  have hrl:=rplN_len ns i i vs (Nat.le_refl i) (by omega)
  obtain ⟨q,hq⟩:∃ q,i + vs.length=q:=⟨_,rfl⟩
  obtain ⟨u,hu⟩:∃ u,ns.length - i=u:=⟨_,rfl⟩
  obtain ⟨t,ht⟩:∃ t,ns.length + vs.length=t:=⟨_,rfl⟩
  have hm0:¬ ((vs.length:Int)=0):=by omega
  have hz2:¬ ((i:Int)=(ns.length:Int)):=by omega
  have hb4:¬ (c=i):=by omega
  have hw1:IntKind.i64.wrap ((i:Int) + (vs.length:Int))=(q:Int):=by rw [IntKind.wrap_i64] <;> omega
  have hw2:IntKind.i64.wrap ((ns.length:Int) + (vs.length:Int))=(t:Int):=by rw [IntKind.wrap_i64] <;> omega
  have hb6:((c:Int) < (t:Int)):=by omega
  have hb9:(q:Int) ≤ (t:Int):=by omega
  have hb10:(i:Int) ≤ (t:Int):=by omega
  have hqt:t - q=u:=by omega
  obtain ⟨k,hk⟩:∃ k,t - i=k:=⟨_,rfl⟩
  have hw3:IntKind.i64.wrap ((t:Int) - (i:Int))=(k:Int):=by rw [IntKind.wrap_i64] <;> omega
  have hik:i + k=t:=by omega
  have hic:(i:Int) ≤ (c:Int):=by omega
  have hin:(i:Int) ≤ (ns.length:Int):=by omega
  obtain ⟨i0,hi0,hz0,hz1,hz2'⟩:=info_parts infoN
  have hcs:∀ a v,(flatN (ns.take i))[a]?=some v → w.drew.cell? ((⟨E,0,none⟩:Addr).add a)=some v:=fun a v ha=>by
    have:=World.ownsRow.cells (hB.ownTake (Nat.zero_le E) i (by omega)) (g:=E) rfl a v ha
    exact this
  have hfi:(flatN (ns.take i)).length=i * 3:=by rw [flatN_len,List.length_take]; congr 1; omega
  have hold:(Builtin.firstCells i0.size i (.slice (some ⟨E,0,none⟩) i c)).run Tryz.prog w.drew=.ok (flatN (ns.take i)).toArray w.drew:=by
    rw [hz1]; exact run_firstCells_some w.drew 3 i ⟨E,0,none⟩ i c (flatN (ns.take i)) hfi hcs
  have hrun:∀ ty,(Builtin.append_ #[69,3] ty #[.slice (some ⟨E,0,none⟩) i c,.int .i64 (k:Int)]).run Tryz.prog w=_:=fun ty =>
    Lib.run_append_grow_zeros w 69 3 ty 57 i0 _ .i64 .i64 Tryz.underlying69 Tryz.underlying3 hi0 hz0 (some ⟨E,0,none⟩) i c (flatN (ns.take i)) hold k (by omega) (by omega) (by omega) (by omega) (by rw [hz2']; omega) (by rw [hz2']; exact growslice_fits (by omega) (by omega))
  obtain ⟨c',hc'⟩:∃ c',grownCap w (i + k) c 57=c':=⟨_,rfl⟩
  have hc1:i + k ≤ c':=by rw [← hc']; exact grownCap_ge w (i + k) c 57
  have hcm':c' ≤ maxLen:=by rw [← hc']; exact grownCap_le_maxLen w (i + k) c 57 (by unfold maxLen; omega)
  rw [hc'] at hrun
  obtain ⟨CUR,hCUR⟩:∃ CUR,CUR=(flatN (ns.take i)).toArray ++ Builtin.zeroCells (Value.cells (.agg #[.string ⟨#[]⟩,.int .i64 0,.bool false])) k ++ Builtin.zeroCells (Value.cells (.agg #[.string ⟨#[]⟩,.int .i64 0,.bool false])) (c' - (i + k)):=⟨_,rfl⟩
  rw [← hCUR] at hrun
  obtain ⟨W1,hW1⟩:∃ W1,W1=w.drew.alloc (.cells CUR 57):=⟨_,rfl⟩
  rw [← hW1] at hrun
  have hbw:Below w.heap.size w W1:=by rw [hW1]; exact (Below.refl _ w).drew.alloc (Nat.le_refl _) _
  have hXW:VX W1 X vs:=hX.same (hbw.block X hX.lt)
  have hBE:NX W1 E c ns:=hB.on hbw
  have r0:W1.heap[w.heap.size]?=some (.cells CUR 57):=by rw [hW1]; exact one_alloc w.drew _
  have s0:CUR.size=c' * 3:=by
    rw [hCUR]; simp only [Array.size_append,size_zeroCells,List.size_toArray,hfi]
    rw [show (Value.cells (.agg #[.string ⟨#[]⟩,.int .i64 0,.bool false])).size=3 from rfl]; omega
  have hgl:CUR.toList.take (i * 3)=flatN (ns.take i):=by
    rw [hCUR]; simp only [Array.toList_append,List.append_assoc]; rw [← hfi]; exact List.take_left
  have HF:=NX.fill (vs:=vs) r0 s0 hcm' hgl (Nat.le_refl i) (show i ≤ ns.length by omega) (by omega)
  rw [hq] at HF
  have HRES:Hid (NBec w ((W1.setCells w.heap.size (i * 3) (flatN vs)).drew.setCells w.heap.size (q * 3) (flatN (ns.drop i))) b0 (.slice (some ⟨E,0,none⟩) ns.length c) (.slice (some ⟨w.heap.size,0,none⟩) t c') (rplN ns i i vs)):=by
    refine ⟨Or.inr ⟨w.heap.size,c',by rw [hrl]; congr 1; omega,hb0,HF.1⟩,?_,fun E' h=>Or.inr (by simp [Value.ownBlock] at h; omega)⟩
    have hg1:w.grownBy ((W1.setCells w.heap.size (i * 3) (flatN vs)).drew.setCells w.heap.size (q * 3) (flatN (ns.drop i))) none:=
      ⟨HF.2.os.trans hbw.os,HF.2.tape.trans hbw.tape,HF.2.output.trans hbw.output,Nat.le_trans hbw.size HF.2.size,fun y hy _=>(HF.2.block y (Nat.lt_of_lt_of_le hy hbw.size) (by simp; omega)).trans (hbw.block y hy)⟩
    exact grown_wide hg1
  have hcp1:∀ ty dc,(Builtin.copy_ #[69,69] ty #[.slice (some ⟨w.heap.size,i * 3,none⟩) k dc,.slice (some ⟨X,0,none⟩) vs.length vc]).run Tryz.prog W1=.ok (goInt (Nat.min vs.length k)) (W1.setCells w.heap.size (i * 3) (flatN vs)):=fun ty dc =>
    run_copy3 W1 ty w.heap.size (i * 3) k dc ⟨X,0,none⟩ vs.length vc (flatN vs) (by rw [flatN_len]; simp only [Nat.min_def]; split <;> omega) hXW.cells
      (fun a ha=>by rw [flatN_len] at ha; rw [cell_of_row _ _ _ _ _ _ r0,Array.getElem?_eq_getElem (by omega)]; rfl) (fun a ha=>frozen_of_row _ _ _ _ _ r0) (flatN_one _)
  obtain ⟨W2,hW2⟩:∃ W2,W2=W1.setCells w.heap.size (i * 3) (flatN vs):=⟨_,rfl⟩
  have r1:=heap_cells w.heap.size _ (flatN vs) (i * 3) W1 CUR r0 (by rw [flatN_len]; omega)
  have s1:=spl_size CUR (i * 3) (flatN vs) (by rw [flatN_len]; omega)
  have hBE2:NX W2 E c ns:=hBE.same (by rw [hW2,(grown_cells w.heap.size _ _ W1).block E hBE.lt (by have:=hB.lt; simp; omega)])
  rw [← hW2] at r1 hcp1 HRES
  have r1d:W2.drew.heap[w.heap.size]?=_:=r1
  have hfl:(flatN (ns.drop i)).length=u * 3:=by rw [flatN_len,List.length_drop,hu]
  have hcp2:∀ ty dc sc,(Builtin.copy_ #[69,69] ty #[.slice (some ⟨w.heap.size,q * 3,none⟩) u dc,.slice (some ⟨E,i * 3,none⟩) u sc]).run Tryz.prog W2.drew=.ok (goInt (Nat.min u u)) (W2.drew.setCells w.heap.size (q * 3) (flatN (ns.drop i))):=fun ty dc sc =>
    run_copy3 W2.drew ty w.heap.size (q * 3) u dc ⟨E,i * 3,none⟩ u sc (flatN (ns.drop i)) (by rw [hfl]; simp) (hBE2.dropAt i (by omega))
      (fun k hk=>by rw [cell_of_row _ _ _ _ _ _ r1d,Array.getElem?_eq_getElem (by omega)]; rfl) (fun k hk=>frozen_of_row _ _ _ _ _ r1d) (flatN_one _)
  have hci:¬ (c'=i):=by omega
  have hcq:¬ (c'=q):=by omega
  have mixed:Tryz.prog.follows Departure.mixedOrders=true:=by kernel_rfl
  have HRUN:Hid _:=hrun
  obtain ⟨S,hS⟩:∃ S,w.heap.size=S:=⟨_,rfl⟩
  rw [hS] at hcp1 hcp2 HRES HRUN
  rw [hik] at HRUN
  clear hold hcs hrun hc' hz2' hz1 hz0 hi0 hfi hcm' hbw hXW hBE r0 s0 hgl HF r1 r1d hBE2 hfl hCUR s1 hB hX hS hW1
  subst hW2
  go_enter Tryz.func96,Tryz.ntmps96
  go_upto_region 9 with fail
  go_wp2_with (at_builtin; go_must (refine Lib.wpList_append_run _ rfl _ _ 69 3 rfl (.slice (some ⟨E,0,none⟩) i c) (.int .i64 (k:Int)) ?a1 ?a2 _ _ (HRUN.out _) ?_))
  case a1=>rfl
  case a2=>rfl
  go_region_law_o (refine step_copy_runI rfl _ _ 69 69 rfl _ _ (by simp [Act.eval,Act.put]) (by simp [Act.eval,Act.put]) (hcp2 _ _ _) ?_)
  go_wp2
  go_returns
  exact ⟨_,rfl,HRES.out⟩
end Go.Proofs.YtjnbjfjoejfmpaaGreatDoor
namespace Go.Proofs.YtjnbjfjoejfmpaaGreatDoor
open Go.RowKit
set_option linter.unusedVariables false
theorem ins_any (b0 X i vc:Nat) (vs:List Nd) (hvs:vs.length ≤ 3) (hv1:1 ≤ vs.length) (nv:Value) (ns:List Nd) (hl:ns.length ≤ 1073741824) (hi:i ≤ ns.length) (w:World) (hb0:b0 ≤ w.heap.size) (hB:NV w b0 nv ns) (hX:VX w X vs) (hXn:∀ E,nv.ownBlock=some E → X ≠ E) :
    Calls Tryz.prog 96 #[nv,.int .i64 (i:Int),.slice (some ⟨X,0,none⟩) vs.length vc] w fun r w'=>∃ v',r=.returned v'∧NBec w w' b0 nv v' (rplN ns i i vs):=by
  rcases Nat.lt_or_eq_of_le hi with h | h
  · rcases hB with ⟨_,rfl⟩ | ⟨E,c,rfl,hbE,hN⟩
    · simp at h
    · rcases Nat.lt_or_ge c (ns.length + vs.length) with hr | hr
      · exact ins_grow b0 X i vc vs hvs hv1 E c ns hl w hN h hX hb0 hr
      · exact ins_shift b0 X i vc vs hvs hv1 E c ns hl w hbE hN h hX (hXn E rfl) hr
  · subst h
    have e:rplN ns ns.length ns.length vs=ns ++ vs:=by unfold rplN; simp
    rw [e]
    exact ins_end b0 X vc vs hvs hv1 nv ns hl w hb0 hB hX
set_option maxHeartbeats 1000000 in
set_option maxRecDepth 100000 in
theorem repl_any (b0 X i j vc:Nat) (vs:List Nd) (hvs:vs.length ≤ 3) (hv1:i=j → 1 ≤ vs.length) (nv:Value) (ns:List Nd) (hl:ns.length ≤ 1073741824) (hi:i ≤ j) (hj:j ≤ ns.length) (w:World) (hb0:b0 ≤ w.heap.size) (hB:NV w b0 nv ns) (hX:VX w X vs) (hXn:∀ E,nv.ownBlock=some E → X ≠ E) :
    Calls Tryz.prog 59 #[nv,.int .i64 (i:Int),.int .i64 (j:Int),.slice (some ⟨X,0,none⟩) vs.length vc] w fun r w'=>∃ v',r=.returned v'∧NBec w w' b0 nv v' (rplN ns i j vs):=by
  rcases Nat.lt_or_eq_of_le hi with h | h
  · rcases hB with ⟨_,rfl⟩ | ⟨E,c,rfl,hbE,hN⟩
    · simp at hj; omega
    · rcases Nat.lt_or_eq_of_le hj with h2 | h2
      · rcases Nat.lt_or_ge c (i + vs.length + (ns.length - j)) with hr | hr
        · exact repl_grow b0 X i j vc vs hvs E c ns hl w hN h h2 hX (hXn E rfl) hb0 hr
        · rcases Nat.lt_or_ge j (i + vs.length) with h3 | h3
          · exact repl_widen b0 X i j vc vs hvs E c ns hl w hbE hN h h2 hX (hXn E rfl) hr h3
          · exact repl_shrink b0 X i j vc vs hvs E c ns hl w hbE hN h h2 hX (hXn E rfl) h3
      · subst h2
        have e:rplN ns i ns.length vs=ns.take i ++ vs:=by unfold rplN; simp
        rw [e]
        exact repl_end b0 X i vc vs hvs E c ns hl w hb0 hbE hN h hX (hXn E rfl)
  · subst h
    have HI:Hid _:=ins_any b0 X i vc vs hvs (hv1 rfl) nv ns hl hj w hb0 hB hX hXn
    have hform:∃ P c,nv=.slice P ns.length c∧ns.length ≤ c:=by
      rcases hB with ⟨rfl,rfl⟩ | ⟨E,c,rfl,_,hN⟩
      · exact ⟨none,0,rfl,by simp⟩
      · exact ⟨some ⟨E,0,none⟩,c,rfl,hN.le⟩
    clear hB hX hXn
    obtain ⟨P,c,rfl,hc⟩:=hform
    have hii:(i:Int) ≤ (ns.length:Int):=by omega
    by_cases hci:c=i
    · subst hci
      go_enter Tryz.func59,Tryz.ntmps59
      go_wp2_with fail
      refine (show Calls _ _ _ _ _ from HI.out).mono ?_
      rintro e w1 ⟨v',rfl,hb1⟩
      have HB:Hid _:=hb1
      clear hb1
      go_wp2
      go_returns
      exact ⟨_,rfl,HB.out⟩
    · have hic:(i:Int) ≤ (c:Int):=by omega
      go_enter Tryz.func59,Tryz.ntmps59
      go_wp2_with fail
      refine (show Calls _ _ _ _ _ from HI.out).mono ?_
      rintro e w1 ⟨v',rfl,hb1⟩
      have HB:Hid _:=hb1
      clear hb1
      go_wp2
      go_returns
      exact ⟨_,rfl,HB.out⟩
end Go.Proofs.YtjnbjfjoejfmpaaGreatDoor
namespace Go.Proofs.YtjnbjfjoejfmpaaGreatDoor
open Go.RowKit
set_option linter.unusedVariables false
def Kept (b:Nat) (w w':World):Prop:=∀ (k:Nat) (cs:Array Value) (T:TypeId) (fr:Nat × Nat),w.heap[k]?=some (.cells cs T fr) → k ≠ b → T ≠ 5 → w'.heap[k]?=some (.cells cs T fr)
theorem Kept.trans {b:Nat} {a c d:World} (h:Kept b a c) (h2:Kept b c d):Kept b a d:=fun k cs T fr e hk hT=>h2 k cs T fr (h k cs T fr e hk hT) hk hT
theorem Kept.below {b:Nat} {w w':World} (h:Below w.heap.size w w'):Kept b w w':=fun k cs T fr e _ _=>by rw [h.block k (row_lt e)]; exact e
structure BK (B b:Nat) (w w':World):Prop where
  bel:Below B w w'
  kept:Kept b w w'
theorem BK.trans {B b:Nat} {x y z:World} (h:BK B b x y) (k:BK B b y z):BK B b x z:=⟨h.bel.trans k.bel,h.kept.trans k.kept⟩
theorem BK.size {B b:Nat} {x y:World} (h:BK B b x y):x.heap.size ≤ y.heap.size:=h.bel.size
theorem BK.refl (B b:Nat) (w:World):BK B b w w:=⟨Below.refl _ _,fun _ _ _ _ h _ _=>h⟩
theorem BK.of {B b:Nat} {x y:World} (h:Below x.heap.size x y) (hB:B ≤ x.heap.size):BK B b x y:=⟨h.mono hB,Kept.below h⟩
theorem BK.dn {B b:Nat} {x y:World} (h:BK B b x y) (n:Nat):BK B b x (y.drewN n):=h.trans ⟨below_dn (Below.refl _ y) n,fun _ _ _ _ h _ _=>h⟩
theorem kept_of {B b:Nat} {w w1 w2:World} {v v':Value} {l:List UInt8} (hown:w.ownsRow B 5 1 v l.length (bcells l)) (h1:∀ k,k < w.heap.size → w1.heap[k]?=w.heap[k]?) (hs:w.heap.size ≤ w1.heap.size) (hg:w1.grownBy w2 v.ownBlock) :
    Kept b w (w2.setCell ⟨b,1,none⟩ v'):=by
  intro k cs T fr hk hkb hT
  have hne2:some k ≠ v.ownBlock:=by
    intro e
    rcases hown.2 with ⟨hv,_⟩ | ⟨g2,cap3,cur,hv,_,hg2,_⟩
    · rw [hv] at e; simp [Value.ownBlock] at e
    · rw [hv] at e
      simp [Value.ownBlock] at e
      subst e
      rw [hg2] at hk
      injection hk with hk
      injection hk with _ h2
      exact hT h2.symm
  have hlt:=row_lt hk
  have h2:w2.heap[k]?=some (.cells cs T fr):=by rw [hg.block k (by omega) hne2,h1 k hlt]; exact hk
  simp [World.setCell,Array.getElem?_modify,Ne.symm hkb,h2]
def mcells (b:Nat) (v:Value):Array Value:=#[.pointer (some ⟨b,0,none⟩),v]
def MakerAt (B b:Nat) (l:List UInt8) (w:World):Prop:=
  B ≤ b∧∃ v,w.heap[b]?=some (.cells (mcells b v) 191 (0,0))∧w.ownsRow B 5 1 v l.length (bcells l)∧v.ownBlock ≠ some b
theorem liesB:liesAt Tryz.prog Tryz.prog.depth 191 (2 / Tryz.prog.cellsOf 191) 0 189 1=true:=by kernel_rfl
theorem sizeB:(Tryz.prog.info? 189).map (·.size)=some 2:=by kernel_rfl
theorem cell_heap {w:World} {b:Nat} {cs:Array Value} {T:TypeId} {fr:Nat × Nat} (hb:w.heap[b]?=some (.cells cs T fr)) (j:Nat):w.cell? ⟨b,j,none⟩=cs[j]?:=by
  simp [World.cell?,hb]
set_option maxHeartbeats 1000000 in
set_option maxRecDepth 100000 in
theorem copyCheck_used (b:Nat) (w:World) (h0:w.cell? ⟨b,0,none⟩=some (.pointer (some ⟨b,0,none⟩))) :
    Calls Tryz.prog 158 #[.pointer (some ⟨b,0,none⟩)] w fun e w'=>e=.returned (.tuple #[])∧w'=w:=by
  obtain ⟨j,hj,_⟩:=Option.map_eq_some_iff.1 sizeB
  go_enter Tryz.func158,Tryz.ntmps158
  go_wp2
  rw [Lib.run_neq_ptr_same w _ Tryz.underlying187 hj]
  go_wp2
  go_end0
  exact ⟨rfl,rfl⟩
set_option maxHeartbeats 1000000 in
set_option maxRecDepth 100000 in
theorem copyCheck_fresh (b:Nat) (w:World) (h0:w.cell? ⟨b,0,none⟩=some (.pointer none)) (hsh:w.shape? b=some (191,2)) (hfz:w.frozen? ⟨b,0,none⟩=false) :
    Calls Tryz.prog 158 #[.pointer (some ⟨b,0,none⟩)] w fun e w'=>e=.returned (.tuple #[])∧w'=w.setCell ⟨b,0,none⟩ (.pointer (some ⟨b,0,none⟩)):=by
  obtain ⟨j,hj,hjs⟩:=Option.map_eq_some_iff.1 sizeB
  go_enter Tryz.func158,Tryz.ntmps158
  go_wp2
  rw [Lib.run_to_unsafe w ⟨b,0,none⟩ Tryz.underlying187 Tryz.underlying211 hj (by rw [hjs]; decide) hsh (show (0:Nat) < 2 by omega)]
  simp only [Result.andThen]
  rw [Oper.upon_value]
  go_wp2
  rw [run_callFunc_extern Tryz.func169 (by kernel_rfl) (by kernel_rfl) (by kernel_rfl) (e:=Extern.AbiNoEscape.same) (by kernel_rfl)]
  rw [Lib.run_noEscape]
  simp only [Result.andThen]
  rw [Oper.upon_value]
  go_wp2
  rw [Lib.run_from_unsafe w ⟨b,0,none⟩ Tryz.underlying211 Tryz.underlying187 hj hsh liesB]
  simp only [Result.andThen]
  rw [Oper.upon_value]
  go_wp2
  go_end0
  exact ⟨rfl,rfl⟩
theorem maker_put {B b:Nat} {v v':Value} {l:List UInt8} {w:World} (hB:B ≤ b) (hb:w.heap[b]?=some (.cells (mcells b v) 191 (0,0))) (hown:w.ownsRow B 5 1 v' l.length (bcells l)) :
    MakerAt B b l (w.setCell ⟨b,1,none⟩ v'):=by
  have hne:v'.ownBlock ≠ some b:=by
    intro e
    rcases hown.2 with ⟨h,_⟩ | ⟨g,cap,cur,h,_,hg,_⟩
    · subst h; simp [Value.ownBlock] at e
    · subst h
      simp [Value.ownBlock] at e
      subst e
      rw [hb] at hg
      injection hg with hg
      injection hg with _ h2
      exact absurd h2 (by decide)
  refine ⟨hB,v',?_,?_,hne⟩
  · simp [World.setCell,Array.getElem?_modify,hb,mcells]
  · refine hown.kept (row:=some b) ⟨rfl,rfl,rfl,by simp [World.setCell],fun k _ hk=>Below.heap_setCell _ _ _ _ (fun e=>hk (by simp [e]))⟩ ?_
    exact Or.inr hne
set_option maxHeartbeats 2000000 in
set_option maxRecDepth 100000 in
theorem writeString_any (B b:Nat) (l:List UInt8) (s:ByteArray) (w:World) (h:MakerAt B b l w) (hlen:l.length + s.size ≤ 140737488355328) (hBw:B ≤ w.heap.size) :
    Calls Tryz.prog 141 #[.pointer (some ⟨b,0,none⟩),.string s] w fun e w'=>e=.returned (.tuple #[.int .i64 s.size,.nilIface])∧(MakerAt B b (l ++ s.data.toList) w'∧BK B b w w'):=by
  obtain ⟨i0,hi,hz0,hz1,hz2⟩:=info_parts info5
  obtain ⟨hB,v,hbk,hown,hne⟩:=h
  have c0:w.cell? ⟨b,0,none⟩=some (.pointer (some ⟨b,0,none⟩)):=by rw [cell_heap hbk]; rfl
  have c1:w.cell? ⟨b,1,none⟩=some v:=by rw [cell_heap hbk]; rfl
  go_enter Tryz.func141,Tryz.ntmps141
  go_wp2_with fail
  refine (copyCheck_used b w c0).mono ?_
  rintro e w1 ⟨rfl,hw1⟩
  subst w1
  go_wp2_with (at_builtin; go_must (refine Lib.wpList_append_own_string _ rfl _ _ 109 9 rfl B 5 i0 Tryz.underlying109 Tryz.underlying9 hi hz0 hz1 hz2 _ _ _ rfl hown s rfl ?c3 ?c4 ?c5 ?_))
  case c3=>unfold maxLen; omega
  case c4=>omega
  case c5=>omega
  intro v' w2 hown' hgrow _
  have hb2:w2.heap[b]?=some (.cells (mcells b v) 191 (0,0)):=by
    rw [hgrow.block b (row_lt hbk) (fun e=>hne e.symm)]
    exact hbk
  have d0:w2.cell? ⟨b,0,none⟩=some (.pointer (some ⟨b,0,none⟩)):=by rw [cell_heap hb2]; rfl
  have d1:w2.cell? ⟨b,1,none⟩=some v:=by rw [cell_heap hb2]; rfl
  have f1:w2.frozen? ⟨b,1,none⟩=false:=Lib.frozen_of_heap hb2 1
  obtain ⟨ao,n',cap,rfl⟩:∃ ao n' cap,v'=.slice ao n' cap:=by
    obtain ⟨p,c,e⟩:=own_form hown'
    exact ⟨_,_,_,e⟩
  have HO2:Hid (w2.ownsRow B 5 1 (.slice ao n' cap) (l ++ s.data.toList).length (bcells (l ++ s.data.toList))):=by
    rw [bcells_str,List.length_append,list_len]; exact hown'
  clear hown'
  go_wp2
  go_ret2
  refine ⟨rfl,maker_put hB hb2 HO2.out,?_,?_⟩
  · exact ((Below.refl B w).grown hgrow hBw (fun k hk=>(hown.lt k hk).1)).setCell (p:=⟨b,1,none⟩) hB _
  · exact kept_of hown (fun _ _=>rfl) (Nat.le_refl _) hgrow
set_option maxHeartbeats 2000000 in
set_option maxRecDepth 100000 in
theorem writeByte_any (B b:Nat) (l:List UInt8) (c:UInt8) (w:World) (h:MakerAt B b l w) (hlen:l.length + 1 ≤ 140737488355328) (hBw:B ≤ w.heap.size) :
    Calls Tryz.prog 144 #[.pointer (some ⟨b,0,none⟩),.int .u8 (c.toNat:Int)] w fun e w'=>e=.returned .nilIface∧(MakerAt B b (l ++ [c]) w'∧BK B b w w'):=by
  obtain ⟨i0,hi,hz0,hz1,hz2⟩:=info_parts info5
  obtain ⟨hB,v,hbk,hown,hne⟩:=h
  have c0:w.cell? ⟨b,0,none⟩=some (.pointer (some ⟨b,0,none⟩)):=by rw [cell_heap hbk]; rfl
  have c1:w.cell? ⟨b,1,none⟩=some v:=by rw [cell_heap hbk]; rfl
  go_enter Tryz.func144,Tryz.ntmps144
  go_wp2_with fail
  refine (copyCheck_used b w c0).mono ?_
  rintro e w1 ⟨rfl,hw1⟩
  subst w1
  go_wp2_with (at_builtin; go_must (refine wpList_append_own _ rfl _ _ 109 rfl B 5 i0 (.int .u8 0) 1 1 Tryz.underlying109 hi hz0 hz1 hz2 rfl (by decide) _ _ _ rfl (World.ownsRow.alloc hown _) ⟨w.heap.size,0,none⟩ 1 1 [.int .u8 (c.toNat:Int)] rfl rfl ?c1 ?c2 ?c3 ?c4 ?c5 ?_))
  case c1 =>
    intro t u hj
    match t,hj with
    | 0,hj=>simp at hj; subst hj; simp [Addr.add]
  case c2=>intro u hu; simp at hu; subst hu; rfl
  case c3=>unfold maxLen; omega
  case c4=>omega
  case c5=>simp; omega
  intro v' w2 hown' hgrow _
  have hb2:w2.heap[b]?=some (.cells (mcells b v) 191 (0,0)):=by
    rw [hgrow.block b (by have:=row_lt hbk; simp; omega) (fun e=>hne e.symm)]
    exact (heap_alloc_old w _ (row_lt hbk)).trans hbk
  have d0:w2.cell? ⟨b,0,none⟩=some (.pointer (some ⟨b,0,none⟩)):=by rw [cell_heap hb2]; rfl
  have d1:w2.cell? ⟨b,1,none⟩=some v:=by rw [cell_heap hb2]; rfl
  have f1:w2.frozen? ⟨b,1,none⟩=false:=Lib.frozen_of_heap hb2 1
  obtain ⟨ao,n',cap,rfl⟩:∃ ao n' cap,v'=.slice ao n' cap:=by
    obtain ⟨p,c,e⟩:=own_form hown'
    exact ⟨_,_,_,e⟩
  have HO2:Hid (w2.ownsRow B 5 1 (.slice ao n' cap) (l ++ [c]).length (bcells (l ++ [c]))):=by
    rw [bcells_snoc,List.length_append]; exact hown'
  have HBB:Hid (Below B w w2):=((Below.refl B w).alloc hBw _).grown hgrow (by simp; omega) (fun k hk=>(World.ownsRow.lt hown k hk).1)
  have HKP:Hid (∀ v',Kept b w (w2.setCell ⟨b,1,none⟩ v')):=fun v'=>kept_of hown (fun k hk=>heap_alloc_old w _ hk) (by simp) hgrow
  clear hown' hgrow
  go_wp2
  go_ret
  exact ⟨rfl,maker_put hB hb2 HO2.out,HBB.out.setCell (p:=⟨b,1,none⟩) hB _,HKP.out _⟩
set_option maxHeartbeats 2000000 in
set_option maxRecDepth 100000 in
theorem string_any (B b:Nat) (l:List UInt8) (w:World) (h:MakerAt B b l w) (h0:l ≠ []) :
    Calls Tryz.prog 145 #[.pointer (some ⟨b,0,none⟩)] w fun e w'=>e=.returned (.string (strB l))∧Below B w w':=by
  obtain ⟨hB,v,hbk,hown,hne⟩:=h
  have hl0:l.length ≠ 0:=by simpa using h0
  obtain ⟨g,cap,cur,rfl,hbg,hg,hnc,hcm,hcs,htake⟩:∃ g cap cur,v=.slice (some ⟨g,0,none⟩) l.length cap∧B ≤ g∧w.heap[g]?=some (.cells cur 5 (0,0))∧l.length ≤ cap∧cap ≤ maxLen∧cur.size=cap * 1∧cur.toList.take (l.length * 1)=bcells l:=by
    rcases hown.2 with ⟨_,hz⟩ | ⟨g,cap,cur,hv,r⟩
    · exact absurd hz hl0
    · exact ⟨g,cap,cur,hv,r⟩
  have c1:w.drew.cell? ⟨b,1,none⟩=some (.slice (some ⟨g,0,none⟩) l.length cap):=by
    have:w.drew.heap[b]?=some (.cells (mcells b (.slice (some ⟨g,0,none⟩) l.length cap)) 191 (0,0)):=hbk
    rw [cell_heap this]; rfl
  have hSD:(Builtin.unsafeSliceData_ #[109] 145 #[.slice (some ⟨g,0,none⟩) l.length cap]).run Tryz.prog w.drew=.ok (.pointer (some ⟨g,0,none⟩)) w.drew:=
    Lib.run_unsafeSliceData_row _ _ _ _ _ _ (by omega)
  have hUS:(Builtin.unsafeString_ #[145,3] 9 #[.pointer (some ⟨g,0,none⟩),.int .i64 l.length]).run Tryz.prog w.drew=.ok (.string (strB l)) (w.drew.freeze ⟨g,0,none⟩ l.length):=by
    refine Lib.run_unsafeString_row w.drew 145 3 9 5 Tryz.underlying145 (by kernel_rfl) g cur.size (by have hg':w.drew.heap[g]?=some (.cells cur 5 (0,0)):=hg; simp [World.shape?,hg']) l h0 (by omega) (by unfold maxLen at hcm; omega) ?_
    intro j x hx
    have:=hown.cells (g:=g) rfl j (.int .u8 x.toNat) (by simp [bcells,hx])
    exact this
  clear htake hown hne
  go_enter Tryz.func145,Tryz.ntmps145
  go_wp2
  go_region
  all_goals (go_wp2; go_ret; exact ⟨rfl,Lib.below_freeze (Below.drew (Below.refl B w)) (p:=⟨g,0,none⟩) hbg _⟩)
end Go.Proofs.YtjnbjfjoejfmpaaGreatDoor
namespace Go.Proofs.YtjnbjfjoejfmpaaGreatDoor
open Go.RowKit
set_option linter.unusedVariables false
/-! slices.DeleteFunc of nodes without elements. -/
abbrev isE:Value:=.func (.func 61) #[] #[]
theorem isEmpty_any (n:Nd) (w:World):Calls Tryz.prog 61 #[.agg #[.string n.1,.int .i64 (n.2.1:Int),.bool n.2.2]] w fun e w'=>e=.returned (.bool (n.2.1 == 0))∧Below w.heap.size w w':=by
  obtain ⟨p,c,l⟩:=n
  have HB:Hid (((c:Int) == 0)=(c == 0)):=by show _=_; rcases Nat.eq_zero_or_pos c with h | h; subst h; rfl; rw [show ((c:Int) == 0)=false by simp; omega,show (c == 0)=false by simp; omega]
  go_enter Tryz.func61,Tryz.ntmps61
  go_wp2
  go_returns
  refine ⟨?_,(Below.refl _ w).alloc (Nat.le_refl _) _⟩
  show Ending.returned (Value.bool ((c:Int) == 0))=_
  rw [HB.out]
def okN (n:Nd):Bool:=!(n.2.1 == 0)
set_option maxHeartbeats 1000000 in
set_option maxRecDepth 100000 in
theorem indexF_any (E c:Nat) (vs:List Nd) (hl:vs.length ≤ 1073741824) (w:World) (hB:NX w E c vs) :
    Calls Tryz.prog 100 #[.slice (some ⟨E,0,none⟩) vs.length c,isE] w fun e w'=>Below w.heap.size w w'∧((∃ i:Nat,i < vs.length∧e=.returned (.int .i64 (i:Int))∧(∀ t (h:t < vs.length),t < i → okN vs[t]=true)∧∀ h:i < vs.length,okN vs[i]=false) ∨ (e=.returned (.int .i64 (-1))∧∀ t (h:t < vs.length),okN vs[t]=true)):=by
  have HB:Hid (NX w E c vs):=hB
  have HE:Hid _:=isEmpty_any
  clear hB
  go_enter Tryz.func100,Tryz.ntmps100
  go_wp2
  go_loopw [8] (fun ci wr=>∃ i:Nat,i ≤ vs.length∧ci=.int .i64 (i:Int)∧Below w.heap.size w wr∧∀ t (h:t < vs.length),t < i → okN vs[t]=true) (fun ci _=>vs.length - (intOf ci).toNat)
  case atStart=>exact ⟨0,by omega,rfl,Below.refl _ _,fun t _ h=>by omega⟩
  case round =>
    obtain ⟨i,hi,rfl,hb,hall⟩:=hrel
    have HBR:Hid (Below w.heap.size w wr):=hb
    have HALL:Hid _:=hall
    by_cases hlt:i < vs.length
    · obtain ⟨x0,x1,x2⟩:=(HB.out.on hb).cells i hlt
      have hz0:(0:Int) ≤ (i:Int):=by omega
      have hz1:(i:Int) < (vs.length:Int):=by omega
      have HEI:Hid _:=HE.out vs[i]
      have HO:Hid (okN vs[i]=!(vs[i].2.1 == 0)):=rfl
      obtain ⟨b,hbb⟩:∃ b,(vs[i].2.1 == 0)=b:=⟨_,rfl⟩
      rw [hbb] at HEI HO
      generalize vs[i].1=P at *
      generalize vs[i].2.1=Cn at *
      generalize vs[i].2.2=Lg at *
      clear hb hall hbb
      go_wp2_with fail
      refine (show Calls _ _ _ _ _ from HEI.out _).mono ?_
      rintro e w1 ⟨rfl,hb1⟩
      have HB1:Hid (Below w.heap.size w w1):=bel_to HBR.out hb1 (Nat.le_refl _)
      clear hb1 x0 x1 x2
      cases b with
      | true =>
        go_wp2
        go_returns
        exact ⟨HB1.out,Or.inl ⟨i,hlt,rfl,HALL.out,fun _=>HO.out⟩⟩
      | false =>
        go_wp2
        go_roundw
        case rel =>
          refine ⟨i + 1,hlt,by congr 1,HB1.out,fun t ht hti=>?_⟩
          rcases Nat.lt_or_eq_of_le (Nat.le_of_lt_succ hti) with h1 | h1
          · exact HALL.out t ht h1
          · subst h1; exact HO.out
        case measure=>simp [intOf]; omega
    · have he:i=vs.length:=by omega
      subst he
      clear hb hall
      go_wp2
      go_returns
      exact ⟨HBR.out,Or.inr ⟨rfl,fun t ht=>HALL.out t ht ht⟩⟩
def DI (W:World) (X c:Nat) (vs:List Nd) (i j:Nat):Prop:=∃ cur,W.heap[X]?=some (.cells cur 57)∧cur.size=c * 3∧cur.toList.take (i * 3)=flatN ((vs.take j).filter okN)∧i=((vs.take j).filter okN).length∧∀ t (h:t < vs.length),j ≤ t → ∀ k v,(ndC vs[t])[k]?=some v → cur[t * 3 + k]?=some v
theorem grown_of {w w':World} {r:Option Nat} (h:Below w.heap.size w w'):w.grownBy w' r:=⟨h.os,h.tape,h.output,h.size,fun k hk _=>h.block k hk⟩
theorem DI.lt {W:World} {X c i j:Nat} {vs:List Nd} (h:DI W X c vs i j):X < W.heap.size:=by obtain ⟨cur,h1,_⟩:=h; exact row_lt h1
theorem DI.on {W W':World} {X c i j:Nat} {vs:List Nd} (h:DI W X c vs i j) (hb:Below W.heap.size W W'):DI W' X c vs i j:=by
  obtain ⟨cur,h1,h2⟩:=h; exact ⟨cur,keep_row h1 hb,h2⟩
theorem DI.frozen {W:World} {X c i j:Nat} {vs:List Nd} (h:DI W X c vs i j) (k:Nat):W.frozen? ⟨X,k,none⟩=false:=by
  obtain ⟨cur,h1,_⟩:=h; exact frozen_of_row _ _ _ _ _ h1
theorem DI.there {W:World} {X c i j:Nat} {vs:List Nd} (h:DI W X c vs i j) (k:Nat) (hk:k < c * 3):∃ u,W.cell? ⟨X,k,none⟩=some u:=by
  obtain ⟨cur,h1,h2,_⟩:=h; exact ⟨cur[k],by rw [cell_of_row _ _ _ _ _ _ h1,Array.getElem?_eq_getElem (by omega)]⟩
theorem DI.cells {W:World} {X c i j:Nat} {vs:List Nd} (h:DI W X c vs i j) (t:Nat) (ht:t < vs.length) (hj:j ≤ t):W.cell? ⟨X,t * 3,none⟩=some (.string vs[t].1)∧W.cell? ⟨X,t * 3 + 1,none⟩=some (.int .i64 (vs[t].2.1:Int))∧W.cell? ⟨X,t * 3 + 2,none⟩=some (.bool vs[t].2.2):=by
  obtain ⟨cur,h1,_,_,_,h5⟩:=h
  rw [cell_of_row _ _ _ _ _ _ h1,cell_of_row _ _ _ _ _ _ h1,cell_of_row _ _ _ _ _ _ h1]
  exact ⟨h5 t ht hj 0 _ rfl,h5 t ht hj 1 _ rfl,h5 t ht hj 2 _ rfl⟩
theorem take_snoc (vs:List Nd) (j:Nat) (h:j < vs.length):vs.take (j + 1)=vs.take j ++ [vs[j]]:=by rw [List.take_add_one,List.getElem?_eq_getElem h]; rfl
theorem DI.skip {W:World} {X c i j:Nat} {vs:List Nd} (h:DI W X c vs i j) (hj:j < vs.length) (ho:okN vs[j]=!true):DI W X c vs i (j + 1):=by
  obtain ⟨cur,h1,h2,h3,h4,h5⟩:=h
  have e:(vs.take (j + 1)).filter okN=(vs.take j).filter okN:=by
    rw [take_snoc vs j hj,List.filter_append,List.filter_cons_of_neg (by rw [ho]; simp),List.filter_nil,List.append_nil]
  exact ⟨cur,h1,h2,by rw [e]; exact h3,by rw [e]; exact h4,fun t ht hjt=>h5 t ht (by omega)⟩
theorem DI.put {W:World} {X c i j:Nat} {vs:List Nd} (h:DI W X c vs i j) (hj:j < vs.length) (hij:i < j) (ho:okN vs[j]=!false):DI (W.setCells X (i * 3) (ndC vs[j])) X c vs (i + 1) (j + 1):=by
  obtain ⟨cur,h1,h2,h3,h4,h5⟩:=h
  have hl3:(ndC vs[j]).length=3:=rfl
  have hjc:j * 3 + 2 < cur.size:=by
    have:=h5 j hj (Nat.le_refl _) 2 _ rfl
    exact (Array.getElem?_eq_some_iff.1 this).1
  have e:(vs.take (j + 1)).filter okN=(vs.take j).filter okN ++ [vs[j]]:=by
    rw [take_snoc vs j hj,List.filter_append,List.filter_cons_of_pos (by rw [ho]; rfl),List.filter_nil]
  refine ⟨_,heap_cells X _ (ndC vs[j]) (i * 3) W cur h1 (by rw [hl3]; omega),by rw [spl_size _ _ _ (by rw [hl3]; omega)]; exact h2,?_,by rw [e,List.length_append,← h4]; rfl,fun t ht hjt k v hv=>?_⟩
  · rw [e,flatN_app,show (i + 1) * 3=i * 3 + (ndC vs[j]).length by rw [hl3]; omega,spl_take2 _ _ _ (by omega),h3]
    show _=_ ++ (ndC vs[j] ++ [])
    rw [List.append_nil]
  · have:=h5 t ht (by omega) k v hv
    have hk:=(Array.getElem?_eq_some_iff.1 this).1
    rw [← Array.getElem?_toList]
    unfold spl
    rw [List.getElem?_append_right (by rw [List.length_take]; omega),List.getElem?_append_right (by rw [List.length_take,hl3]; simp; omega),List.getElem?_drop,← this,← Array.getElem?_toList]
    congr 1
    rw [List.length_take,hl3]; simp; omega
theorem DI.ini {W:World} {X c i:Nat} {vs:List Nd} (h:NX W X c vs) (hi:i < vs.length) (hlo:∀ t (h:t < vs.length),t < i → okN vs[t]=true) (hat:∀ h:i < vs.length,okN vs[i]=false):DI W X c vs i (i + 1):=by
  obtain ⟨cur,h1,h2,h3⟩:=h.row
  have e0:(vs.take i).filter okN=vs.take i:=List.filter_eq_self.2 (fun x hx=>by
    obtain ⟨t,ht,rfl⟩:=List.getElem_of_mem hx
    rw [List.length_take] at ht
    rw [List.getElem_take]; exact hlo t (by omega) (by omega))
  have e:(vs.take (i + 1)).filter okN=vs.take i:=by
    rw [take_snoc vs i hi,List.filter_append,List.filter_cons_of_neg (by rw [hat hi]; simp),List.filter_nil,List.append_nil,e0]
  refine ⟨cur,h1,h2,?_,by rw [e,List.length_take]; omega,fun t ht _ k v hv=>?_⟩
  · rw [e,flatN_take vs i (by omega),← h3,List.take_take]; congr 1; omega
  · have hk:k < 3:=(List.getElem?_eq_some_iff.1 hv).1
    have hf:=flatN_at vs t ht
    have:(flatN vs)[t * 3 + k]?=some v:=by
      match k,hk,hv with
      | 0,_,hv=>cases hv; exact hf.1
      | 1,_,hv=>cases hv; exact hf.2.1
      | 2,_,hv=>cases hv; exact hf.2.2
    rw [← Array.getElem?_toList,← List.getElem?_take_of_lt (show t * 3 + k < vs.length * 3 by omega),h3]; exact this
set_option maxHeartbeats 2000000 in
set_option maxRecDepth 100000 in
theorem deleteF_any (X c:Nat) (vs:List Nd) (hl:vs.length ≤ 1073741824) (w:World) (hB:NX w X c vs) :
    Calls Tryz.prog 60 #[.slice (some ⟨X,0,none⟩) vs.length c,isE] w fun e w'=>e=.returned (.slice (some ⟨X,0,none⟩) (vs.filter okN).length c)∧w.grownBy w' (some X)∧NX w' X c (vs.filter okN):=by
  have HB:Hid (NX w X c vs):=hB
  have HE:Hid _:=isEmpty_any
  have HI:Hid _:=indexF_any X c vs hl w hB
  have hle:=hB.le
  have hmx:=hB.max
  clear hB
  go_enter Tryz.func60,Tryz.ntmps60
  go_wp2_with fail
  refine (show Calls _ _ _ _ _ from HI.out).mono ?_
  rintro e w1 ⟨hb1,⟨i,hi,rfl,hlo,hat⟩ | ⟨rfl,hall⟩⟩
  · have HB1:Hid (Below w.heap.size w w1):=hb1
    have HLO:Hid _:=hlo
    have HAT:Hid _:=hat
    have hm1:¬ ((i:Int)=-1):=by omega
    clear hb1 hlo hat
    go_wp2
    have HINI:Hid (DI w1 X c vs i (i + 1)):=DI.ini (HB.out.on HB1.out) hi HLO.out HAT.out
    go_loopw [5,6,7] (fun ci cj _ wr=>∃ i j:Nat,i < j∧j ≤ vs.length∧ci=.int .i64 (i:Int)∧cj=.int .i64 (j:Int)∧DI wr X c vs i j∧w.grownBy wr (some X)) (fun _ cj _ _=>vs.length - (intOf cj).toNat)
    case atStart=>exact ⟨i,i + 1,by omega,by omega,rfl,by congr 1,HINI.out,grown_of HB1.out⟩
    case round =>
      clear HLO HAT HINI HB1 hm1 hi
      obtain ⟨i,j,hij,hj,rfl,rfl,hD,hG⟩:=hrel
      have HD:Hid (DI wr X c vs i j):=hD
      have HG:Hid (w.grownBy wr (some X)):=hG
      by_cases hlt:j < vs.length
      · obtain ⟨x0,x1,x2⟩:=hD.cells j hlt (Nat.le_refl _)
        have hXl:=hD.lt
        have hz0:(0:Int) ≤ (j:Int):=by omega
        have hz1:(j:Int) < (vs.length:Int):=by omega
        have HEI:Hid _:=HE.out vs[j]
        have HO:Hid (okN vs[j]=!(vs[j].2.1 == 0)):=rfl
        obtain ⟨b,hbb⟩:∃ b,(vs[j].2.1 == 0)=b:=⟨_,rfl⟩
        rw [hbb] at HEI HO
        have HN:Hid (∃ n:Nd,n=vs[j]):=⟨_,rfl⟩
        obtain ⟨n,hn⟩:=HN.out
        have HNE:Hid (n=vs[j]):=hn
        rw [← hn] at x0 x1 x2 HEI
        obtain ⟨P,Cn,Lg⟩:=n
        simp only at x0 x1 x2 HEI
        clear hD hG hbb hn HN
        go_wp2_with fail
        refine (show Calls _ _ _ _ _ from HEI.out _).mono ?_
        rintro e w2 ⟨rfl,hb2⟩
        have hv:w2.heap[wr.heap.size]?=some (.cells #[.string P,.int .i64 (Cn:Int),.bool Lg] 57):=keep_row (one_alloc wr _) hb2
        have HB2:Hid (Below wr.heap.size wr w2):=bel_to ((Below.refl _ wr).alloc (Nat.le_refl _) _) hb2 (Nat.le_refl _)
        obtain ⟨v0,v1,v2,vf⟩:=row3 hv
        clear hb2 x0 x1 x2
        cases b with
        | true =>
          have HR:Hid (DI w2 X c vs i (j + 1)):=(HD.out.on HB2.out).skip hlt HO.out
          have HG2:Hid (w.grownBy w2 (some X)):=grown_trans HG.out (grown_of HB2.out)
          go_wp2
          go_roundw
          case rel=>exact ⟨_,_,_,_,_,_,_,_,_,_,_,_,_,_,_,_,_,_,_,_,_,_,_,⟨i,j + 1,by omega,by omega,rfl,by congr 1,HR.out,HG2.out⟩,rfl⟩
          case measure=>simp [intOf]; omega
        | false =>
          have hD2:=HD.out.on HB2.out
          have hiX:i * 3 + 3 ≤ c * 3:=by omega
          obtain ⟨u0,q0⟩:=hD2.there (i * 3) (by omega)
          obtain ⟨u1,q1⟩:=hD2.there (i * 3 + 1) (by omega)
          obtain ⟨u2,q2⟩:=hD2.there (i * 3 + 2) (by omega)
          have hfz:∀ k,w2.frozen? ⟨X,k,none⟩=false:=hD2.frozen
          have HR:Hid (DI (w2.setCells X (i * 3) (ndC (P,Cn,Lg))) X c vs (i + 1) (j + 1)):=by
            have:=hD2.put hlt hij HO.out
            rw [← HNE.out] at this; exact this
          have HG2:Hid (w.grownBy (w2.setCells X (i * 3) (ndC (P,Cn,Lg))) (some X)):=grown_trans (grown_trans HG.out (grown_of HB2.out)) (grown_cells X _ _ _)
          have hzi:(0:Int) ≤ (i:Int):=by omega
          have hzn:(i:Int) < (vs.length:Int):=by omega
          clear hD2
          go_wp2
          go_roundw
          case rel=>exact ⟨_,_,_,_,_,_,_,_,_,_,_,_,_,_,_,_,_,_,_,_,_,_,_,⟨i + 1,j + 1,by omega,by omega,by congr 1,by congr 1,HR.out,HG2.out⟩,rfl⟩
          case measure=>simp [intOf]; omega
      · have he:j=vs.length:=by omega
        subst he
        obtain ⟨cur,r1,r2,r3,r4,r5⟩:=hD
        rw [List.take_length] at r3 r4
        obtain ⟨k,hk⟩:∃ k,vs.length - i=k:=⟨_,rfl⟩
        have hcl:∀ ty cc,Sem.run Tryz.prog (Builtin.clear_ #[69] ty #[.slice (some ⟨X,i * 3,none⟩) k cc]) wr=.ok (.tuple #[]) (wr.setCells X (i * 3) (zeroN k)):=fun ty cc=>run_clrN X (i * 3) k cc ty wr cur r1 (by omega)
        have hNX:NX wr X c (vs.filter okN):=⟨⟨cur,r1,r2,by rw [← r4]; exact r3⟩,by omega,hmx⟩
        have HR:Hid (NX (wr.setCells X (i * 3) (zeroN k)) X c (vs.filter okN)):=hNX.clr (by rw [← r4]; exact Nat.le_refl _) (by omega)
        have HG2:Hid (w.grownBy (wr.setCells X (i * 3) (zeroN k)) (some X)):=grown_trans HG.out (grown_cells X _ _ _)
        have HI4:Hid (i=(vs.filter okN).length):=r4
        have hci:¬ (c=i):=by omega
        have hic:(i:Int) ≤ (c:Int):=by omega
        have hin:(i:Int) ≤ (vs.length:Int):=by omega
        clear r1 r2 r3 r4 r5 hNX hG
        go_wp2
        go_returns
        exact ⟨by rw [← HI4.out]; rfl,HG2.out,HR.out⟩
  · have hf:vs.filter okN=vs:=List.filter_eq_self.2 (fun x hx=>by obtain ⟨t,ht,rfl⟩:=List.getElem_of_mem hx; exact hall t ht)
    have HF:Hid _:=hf
    have HG:Hid (w.grownBy w1 (some X)∧NX w1 X c vs):=⟨⟨hb1.os,hb1.tape,hb1.output,hb1.size,fun k hk _=>hb1.block k hk⟩,HB.out.on hb1⟩
    clear hb1 hall hf
    go_wp2
    go_returns
    rw [HF.out]
    exact ⟨rfl,HG.out⟩
end Go.Proofs.YtjnbjfjoejfmpaaGreatDoor
namespace Go.Proofs.YtjnbjfjoejfmpaaGreatDoor
open Go.RowKit Vi
set_option linter.unusedVariables false

def laidL:List (String × DataW Unit):=[("math/bits.deBruijn32tab",Rows.laid_math_bits_deBruijn32tab),("math/bits.deBruijn64tab",Rows.laid_math_bits_deBruijn64tab),("internal/strconv.uint64pow10",Rows.laid_internal_strconv_uint64pow10),("strconv.ErrRange",Rows.laid_strconv_ErrRange),("strconv.ErrSyntax",Rows.laid_strconv_ErrSyntax),("cistern/listpack.widths",Rows.laid_cistern_listpack_widths)]
theorem own:ownKnob Tryz.prog.godebug=none:=by kernel_rfl
theorem gPow:Tryz.prog.globalNamed "internal/strconv.uint64pow10"=some 4:=by kernel_rfl
theorem gSyn:Tryz.prog.globalNamed "strconv.ErrSyntax"=some 2:=by kernel_rfl
theorem gRng:Tryz.prog.globalNamed "strconv.ErrRange"=some 3:=by kernel_rfl
theorem gWid:Tryz.prog.globalNamed "cistern/listpack.widths"=some 0:=by kernel_rfl
theorem tPow:(Tryz.prog.globals[4]?).map (·.type)=some 232:=by kernel_rfl
theorem tSyn:(Tryz.prog.globals[2]?).map (·.type)=some 185:=by kernel_rfl
theorem tRng:(Tryz.prog.globals[3]?).map (·.type)=some 185:=by kernel_rfl
theorem tWid:(Tryz.prog.globals[0]?).map (·.type)=some 198:=by kernel_rfl
theorem cellsE:Tryz.prog.cellsOf 236=1:=by kernel_rfl
theorem cells9:Tryz.prog.cellsOf 9=1:=by kernel_rfl
theorem cells3:Tryz.prog.cellsOf 3=1:=by kernel_rfl
theorem cellsU:Tryz.prog.cellsOf 206=1:=by kernel_rfl
theorem cellsT:Tryz.prog.cellsOf 232=20:=by kernel_rfl
theorem cellsW:Tryz.prog.cellsOf 198=4:=by kernel_rfl
theorem star: "*" ++ "errors.errorString"= "*errors.errorString":=by decide
theorem rowE (u:TypeId) (h:Tryz.prog.typeName? 3 u=some "*errors.errorString"):u=234:=
  typeName_ptr_named (nm:= "errors.errorString") (by rw [star]; kernel_rfl) (by kernel_rfl) (by decide) u (by rw [star]; exact h)
theorem tabD:(Rows.laid_internal_strconv_uint64pow10:DataW Unit)=Lib.tabData .u64 Lib.pow10Tab:=by rfl
theorem tabW:(Rows.laid_cistern_listpack_widths:DataW Unit)=Lib.tabData .i64 [2,3,4,8]:=by rfl

set_option maxRecDepth 100000 in
theorem door_met (os:Os) (args:Array Value):laidMetH Tryz.prog laidL ((World.doorLaid Tryz.prog 400 os).forCall (fun _ _=>0) ⟨#[],args,[]⟩).memory:=
  laidMetH_of_parts3 (fuel:=8) (laidMet_of_run' 8 (by kernel_rfl) (by kernel_rfl)) (by kernel_rfl) (by kernel_rfl)

theorem wid_of {W:World} (h:Lib.TabIs Tryz.prog W "cistern/listpack.widths" .i64 [2,3,4,8]):Wid W:=by
  unfold Lib.TabIs World.var? at h
  rw [gWid] at h
  simp only [Option.bind_some] at h
  split at h
  · rename_i cs t fr hh
    injection h with h
    subst h
    constructor <;> (rw [cell_of_row _ _ _ _ _ _ hh]; rfl)
  · cases h

theorem of_laid {W:World} (h:laidMetH Tryz.prog laidL W):Lay W:=by
  rw [MakeChecks.laidMetH_plain _ _ _ (by kernel_rfl)] at h
  have h2:=laidMet.tail (laidMet.tail h)
  have h3:=laidMet.tail h2
  have h4:=laidMet.tail h3
  have h5:=laidMet.tail h4
  rw [tabD] at h2
  rw [tabW] at h5
  refine ⟨⟨Lib.tabIs_of_head gPow tPow Tryz.underlying232 Tryz.underlying206 cellsU cellsT h2,?_,?_⟩,wid_of (Lib.tabIs_of_head gWid tWid Tryz.underlying198 Tryz.underlying3 cells3 cellsW h5)⟩
  · obtain ⟨a0,s0,hv0,-,-,-⟩:=laid_sentinel h4 gSyn tSyn Tryz.underlying185 rowE Tryz.underlying234 Tryz.underlying236 rfl rfl Tryz.underlying9 cellsE cells9
    exact ⟨_,_,hv0⟩
  · obtain ⟨a0,s0,hv0,-,-,-⟩:=laid_sentinel h3 gRng tRng Tryz.underlying185 rowE Tryz.underlying234 Tryz.underlying236 rfl rfl Tryz.underlying9 cellsE cells9
    exact ⟨_,_,hv0⟩
end Go.Proofs.YtjnbjfjoejfmpaaGreatDoor
