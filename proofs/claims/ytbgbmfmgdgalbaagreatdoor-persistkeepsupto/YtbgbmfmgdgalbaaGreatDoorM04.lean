import Derived.Test.YtbgbmfmgdgalbaaGreatDoorM03
namespace Go.Proofs.YtbgbmfmgdgalbaaGreatDoor
open Go.RowKit Go.Maps
set_option linter.unusedVariables false
set_option linter.unusedSimpArgs false
structure DOk (d:List Sl) (n:Nat):Prop where
  rise:d.Pairwise fun a b=>ltB a.1 b.1=true
  nam:∀ x ∈ d,namedM x.1=true
  ge:∀ x ∈ d,0 ≤ x.2
  lt:∀ x ∈ d,x.2 < (n:Int)
  uni:d.Pairwise fun a b=>a.2 ≠ b.2
  few:d.length ≤ 64
def dirF (d:List Sl) (fb:Nat → Nat):ByteArray → Option Nat:=fun n=>if findM d n < 0 then none else some (fb (findM d n).toNat)
theorem findM_mem {d:List Sl} {n:ByteArray} (h:¬ findM d n < 0):∃ x ∈ d,x.1=n∧x.2=findM d n:=by
  unfold findM at h ⊢
  rcases hf:d.find? (fun x=>decide (x.1=n)) with _ | x
  · rw [hf] at h; simp at h
  · exact ⟨x,List.mem_of_find?_eq_some hf,by simpa using List.find?_some hf,by rw [hf]; rfl⟩
theorem findM_in {d:List Sl} (hr:d.Pairwise fun a b=>ltB a.1 b.1=true) {x:Sl} (hx:x ∈ d):findM d x.1=x.2:=by
  induction d with
  | nil=>cases hx
  | cons y d ih =>
    rw [List.pairwise_cons] at hr
    rcases List.mem_cons.1 hx with rfl | hx
    · simp [findM]
    · have hne:y.1 ≠ x.1:=fun e=>by have:=hr.1 x hx; rw [e,ltB_irr] at this; cases this
      have:=ih hr.2 hx
      unfold findM at *
      rw [List.find?_cons,decide_eq_false hne]
      exact this
theorem findM_none {d:List Sl} {n:ByteArray} (h:∀ x ∈ d,x.1 ≠ n):findM d n=-1:=by
  unfold findM
  have:d.find? (fun x=>decide (x.1=n))=none:=by
    rw [List.find?_eq_none]; intro x hx; simpa using h x hx
  rw [this]; rfl
theorem names_of {d:List Sl} {n:Nat} (h:DOk d n) (fb:Nat → Nat):NamesOf (dirF d fb) (d.map (·.1)):=by
  refine ⟨by rw [List.pairwise_map]; exact h.rise,fun m=>?_⟩
  unfold dirF
  rw [List.mem_map]
  constructor
  · rintro ⟨x,hx,rfl⟩
    have:=findM_in h.rise hx
    have:=h.ge x hx
    rw [if_neg (by omega)]; rfl
  · intro hs
    by_cases hf:findM d m < 0
    · rw [if_pos hf] at hs; cases hs
    · obtain ⟨x,hx,e,_⟩:=findM_mem hf
      exact ⟨x,hx,e⟩
theorem named_size {n:ByteArray} (h:namedM n=true):0 < n.size∧n.size ≤ 64:=by
  unfold namedM at h
  simp only [Bool.and_eq_true,decide_eq_true_eq] at h
  exact ⟨h.1.1.1.1,h.1.1.1.2⟩
theorem MapIs.size_names {W:World} {mb k:Nat} {f:ByteArray → Option Nat} {L:List ByteArray} (h:MapIs W mb k f) (hL:NamesOf f L):k=L.length:=by
  obtain ⟨D,hD,hm⟩:=h
  obtain ⟨es,hDe,hpw,_⟩:=hD.entries lawK
  obtain ⟨es',hDe',hko⟩:=hD.keysOf
  obtain rfl:es=es':=by rw [hDe] at hDe'; simpa using hDe'
  subst hDe
  have hnd:(L.map fun s=>s.data.toList).Nodup:=by
    rw [List.Nodup,List.pairwise_map]
    refine hL.rise.imp (fun {a b} hab e=>?_)
    have:a=b:=ByteArray.ext (Array.toList_inj.1 e)
    subst this
    rw [ltB_irr] at hab; cases hab
  have hp:=perm_strKeys hpw (fun p hp=>by obtain ⟨v,hv⟩:=hko p hp; obtain ⟨x,_,hx,_⟩:=Maps.keyOf_str Tryz.underlying9 hv; exact ⟨x,hx⟩) hnd (fun x=>by
    have h1:=hm.has ⟨x.toArray⟩
    have h2:(⟨x.toArray⟩:ByteArray).data.toList=x:=by simp
    rw [h2] at h1
    rw [h1,← hL.mem,List.mem_map]
    constructor
    · rintro ⟨s,hs,rfl⟩; exact hs
    · intro hx; exact ⟨_,hx,by simp⟩)
  have:=hp.length_eq
  rw [← hm.siz,size_eq]
  simpa [strKeys] using this.symm
structure Pc where
  n:ByteArray
  t:ByteArray
  b:Nat
def pcOf (c:Ch) (b:Nat):Pc:=if c.t.size=0 then (if c.f < 0 then ⟨c.n,⟨#[]⟩,b⟩ else ⟨⟨#[]⟩,c.n,b⟩) else ⟨c.n,c.t,b⟩
def pgE:ET Pc:=⟨fun x=>[.string x.n,.string x.t,ptr (some x.b)],3,40,100,71,.agg #[.string ⟨#[]⟩,.string ⟨#[]⟩,.pointer none]⟩
theorem pgOk:ETok pgE:=⟨Tryz.underlying71,by kernel_rfl,rfl,by decide,fun _=>rfl,fun x u hu=>by simp [pgE] at hu; rcases hu with rfl | rfl | rfl <;> rfl⟩
structure Pq where
  s:Nat
  c:Bool
  b:Nat
def meetV (q:Pq):Value:=.func (.func (if q.c then 45 else 39)) #[] #[.pointer (some ⟨q.b,0,none⟩)]
def plnE:ET Pq:=⟨fun q=>[.int .i64 (q.s:Int),.bool q.c,meetV q],3,24,91,72,.agg #[.int .i64 0,.bool false,.nilFunc]⟩
theorem plnOk:ETok plnE:=⟨Tryz.underlying72,by kernel_rfl,rfl,by decide,fun _=>rfl,fun x u hu=>by simp [plnE] at hu; rcases hu with rfl | rfl | rfl <;> rfl⟩
def pinE:ET Int:=⟨fun x=>[.int .i64 x],1,8,3,44,.int .i64 0⟩
theorem pinOk:ETok pinE:=⟨Tryz.underlying44,by kernel_rfl,rfl,by decide,fun _=>rfl,fun x u hu=>by simp [pinE] at hu; rcases hu with rfl; rfl⟩
def PRow (W:World) (v:Value) (l:List Pq):Prop:=(v=.slice none 0 0∧l=[]) ∨ ∃ g o c cur,v=.slice (some ⟨g,o * 3,none⟩) l.length c∧W.heap[g]?=some (.cells cur 91 (0,0))∧(o + c) * 3 ≤ cur.size∧l.length ≤ c∧o + c ≤ 9223372036854775807∧∀ j u,(plnE.fl l)[j]?=some u → cur[o * 3 + j]?=some u
structure Holds (W:World) (F:Fs) (q:Pq):Prop where
  cr:q.c=true → F.crash=(q.s:Int)∧∃ v,W.heap[q.b]?=some (.cells #[v] 44)∧W.ownsRow 0 3 1 v F.picks.length (pinE.fl F.picks)
  fl:q.c=false → ∃ p:Int,W.heap[q.b]?=some (.cells #[.int .i64 p] 3)∧failM F.fails q.s=some p
def ltQ (a b:Pq):Prop:=a.s < b.s ∨ (a.s=b.s∧a.c=true∧b.c=false)
structure Plans (F:Fs) (qs:List Pq):Prop where
  srt:qs.Pairwise ltQ
  ahead:∀ q ∈ qs,F.steps < q.s
  all:∀ n p,F.steps < n → failM F.fails n=some p → ∃ q ∈ qs,q.c=false∧q.s=n
  cr:∀ n:Nat,F.steps < n → F.crash=(n:Int) → ∃ q ∈ qs,q.c=true∧q.s=n
structure Gh where
  mn:Nat
  ms:Nat
  fb:Nat → Nat
  pv:Nat → Value
  ps:Nat → List ByteArray
  cv:Value
  cf:List Nat
  qv:Value
  qs:List Pq
def Live (F:Fs) (X:Gh) (i:Nat):Prop:=(∃ x ∈ F.dir,x.2=(i:Int)) ∨ (∃ x ∈ F.sure,x.2=(i:Int)) ∨ i ∈ X.cf
def chgL (F:Fs) (X:Gh):List Pc:=(F.chg.zip X.cf).map fun x=>pcOf x.1 (X.fb x.2)
def dirK (F:Fs) (k:Nat):List Sl:=(F.chg.take k).foldl afterM F.sure
structure FOk (F:Fs) (cf:List Nat):Prop where
  dirs:∀ k,k ≤ F.chg.length → DOk (dirK F k) F.files.length
  now:dirK F F.chg.length=F.dir
  cl:cf.length=F.chg.length
  cfl:∀ i ∈ cf,i < F.files.length
  ch:∀ x ∈ F.chg.zip cf,(x.1.f < 0 ∨ x.1.f=(x.2:Int))∧namedM x.1.n=true∧(x.1.t.size=0 ∨ namedM x.1.t=true)∧(x.1.t.size ≠ 0 → x.1.f=(x.2:Int))
theorem FOk.dir {F:Fs} {cf:List Nat} (h:FOk F cf):DOk F.dir F.files.length:=by have:=h.dirs _ (Nat.le_refl _); rw [h.now] at this; exact this
theorem FOk.sure {F:Fs} {cf:List Nat} (h:FOk F cf):DOk F.sure F.files.length:=h.dirs 0 (Nat.zero_le _)
def Own (g:Nat) (F:Fs) (X:Gh) (k:Nat):Prop:=k=g ∨ k=X.mn ∨ k=X.ms ∨ (∃ i,Live F X i∧(k=X.fb i ∨ (X.pv i).ownBlock=some k)) ∨ X.cv.ownBlock=some k ∨ X.qv.ownBlock=some k
structure FsC (W:World) (g:Nat) (X:Gh) (F:Fs):Prop where
  ok:FOk F X.cf
  blk:W.heap[g]?=some (.cells #[.bool F.down,.int .i64 (F.steps:Int),.int .i64 (F.files.length:Int),.map (some X.mn),.map (some X.ms),X.cv,X.qv] 74)
  now:∃ k,MapIs W X.mn k (dirF F.dir X.fb)
  safe:∃ k,MapIs W X.ms k (dirF F.sure X.fb)
  mne:X.mn ≠ X.ms
  chg:W.ownsRow 0 100 3 X.cv F.chg.length (pgE.fl (chgL F X))
  row:PRow W X.qv X.qs
  fil:∀ i x,Live F X i → F.files[i]?=some x → FileAt W (X.fb i) i x (X.pv i) (X.ps i)
  inj:∀ i j,Live F X i → Live F X j → i ≠ j → X.fb i ≠ X.fb j∧∀ k,(X.pv i).ownBlock=some k → (X.pv j).ownBlock ≠ some k
structure FsP (W:World) (g:Nat) (X:Gh) (F:Fs):Prop extends FsC W g X F where
  pln:Plans F X.qs
  hld:∀ q ∈ X.qs,Holds W F q
theorem FsC.now_k {W:World} {g:Nat} {X:Gh} {F:Fs} (h:FsC W g X F):MapIs W X.mn F.dir.length (dirF F.dir X.fb):=by
  obtain ⟨k,hk⟩:=h.now
  have:=hk.size_names (names_of h.ok.dir X.fb)
  rw [List.length_map] at this
  subst this; exact hk
theorem FsC.safe_k {W:World} {g:Nat} {X:Gh} {F:Fs} (h:FsC W g X F):MapIs W X.ms F.sure.length (dirF F.sure X.fb):=by
  obtain ⟨k,hk⟩:=h.safe
  have:=hk.size_names (names_of h.ok.sure X.fb)
  rw [List.length_map] at this
  subst this; exact hk
theorem FsC.live_lt {W:World} {g:Nat} {X:Gh} {F:Fs} (h:FsC W g X F) {i:Nat} (hi:Live F X i):i < F.files.length:=by
  rcases hi with ⟨x,hx,e⟩ | ⟨x,hx,e⟩ | hi
  · have:=h.ok.dir.lt x hx; omega
  · have:=h.ok.sure.lt x hx; omega
  · exact h.ok.cfl i hi
theorem PRow.type {W:World} {v:Value} {l:List Pq} (h:PRow W v l) {k:Nat} (hk:v.ownBlock=some k):∃ cur,W.heap[k]?=some (.cells cur 91 (0,0)):=by
  rcases h with ⟨rfl,_⟩ | ⟨g,o,c,cur,rfl,hc,_⟩
  · cases hk
  · cases hk; exact ⟨cur,hc⟩
theorem PRow.to {W W':World} {v:Value} {l:List Pq} (h:PRow W v l) (hk:∀ k,v.ownBlock=some k → W'.heap[k]?=W.heap[k]?):PRow W' v l:=by
  rcases h with h | ⟨g,o,c,cur,hv,hc,r⟩
  · exact Or.inl h
  · exact Or.inr ⟨g,o,c,cur,hv,(hk g (by rw [hv]; rfl)).trans hc,r⟩
def tyOwn (t:Nat):Prop:=t=74 ∨ t=85 ∨ t=9 ∨ t=100 ∨ t=91
theorem FsC.own_ty {W:World} {g:Nat} {X:Gh} {F:Fs} (h:FsC W g X F) {k:Nat} (hk:Own g F X k) {cs:Array Value} {t:Nat} {fz:Nat × Nat} (hb:W.heap[k]?=some (.cells cs t fz)):tyOwn t:=by
  have key:∀ {cs':Array Value} {t':Nat} {fz':Nat × Nat},W.heap[k]?=some (.cells cs' t' fz') → t=t':=fun h'=>by
    have:=hb.symm.trans h'
    injection this with this
    injection this
  rcases hk with rfl | rfl | rfl | ⟨i,hl,rfl | hp⟩ | hc | hq
  · exact Or.inl (key h.blk)
  · obtain ⟨k,hm⟩:=h.now; obtain ⟨es,c,h1⟩:=hm.obj; rw [h1] at hb; cases hb
  · obtain ⟨k,hm⟩:=h.safe; obtain ⟨es,c,h1⟩:=hm.obj; rw [h1] at hb; cases hb
  · have hlt:=h.live_lt hl
    exact Or.inr (Or.inl (key (h.fil i _ hl (List.getElem?_eq_getElem hlt)).blk))
  · have hlt:=h.live_lt hl
    obtain ⟨cur,hc⟩:=own_type (h.fil i _ hl (List.getElem?_eq_getElem hlt)).own hp
    exact Or.inr (Or.inr (Or.inl (key hc)))
  · obtain ⟨cur,hc⟩:=own_type h.chg hc
    exact Or.inr (Or.inr (Or.inr (Or.inl (key hc))))
  · obtain ⟨cur,hc⟩:=h.row.type hq
    exact Or.inr (Or.inr (Or.inr (Or.inr (key hc))))
theorem FsC.own_lt {W:World} {g:Nat} {X:Gh} {F:Fs} (h:FsC W g X F) {k:Nat} (hk:Own g F X k):k < W.heap.size:=by
  rcases hk with rfl | rfl | rfl | ⟨i,hl,rfl | hp⟩ | hc | hq
  · exact row_lt h.blk
  · exact h.now_k.lt
  · exact h.safe_k.lt
  · exact row_lt (h.fil i _ hl (List.getElem?_eq_getElem (h.live_lt hl))).blk
  · obtain ⟨cur,hc⟩:=own_type (h.fil i _ hl (List.getElem?_eq_getElem (h.live_lt hl))).own hp; exact row_lt hc
  · obtain ⟨cur,hc⟩:=own_type h.chg hc; exact row_lt hc
  · obtain ⟨cur,hc⟩:=h.row.type hq; exact row_lt hc
theorem Holds.to {W W':World} {F:Fs} {q:Pq} (h:Holds W F q) (hk:∀ (k:Nat) (cs:Array Value) (t:Nat) (fz:Nat × Nat),W.heap[k]?=some (.cells cs t fz) → ¬ tyOwn t → W'.heap[k]?=W.heap[k]?):Holds W' F q:=by
  refine ⟨fun hc=>?_,fun hc=>?_⟩
  · obtain ⟨h1,v,h2,h4⟩:=h.cr hc
    refine ⟨h1,v,(hk _ _ _ _ h2 (by unfold tyOwn; decide)).trans h2,own_to h4 (fun k hk'=>?_)⟩
    obtain ⟨cur,hc⟩:=own_type h4 hk'
    exact hk _ _ _ _ hc (by unfold tyOwn; decide)
  · obtain ⟨p,h1,h2⟩:=h.fl hc
    exact ⟨p,(hk _ _ _ _ h1 (by unfold tyOwn; decide)).trans h1,h2⟩
theorem FsP.mod {W W':World} {S:Nat → Prop} {g:Nat} {X:Gh} {F:Fs} (h:FsP W g X F) (hm:ModP S W W') (hS:∀ k,S k → ¬ Own g F X k) (hH:∀ (k:Nat) (cs:Array Value) (t:Nat) (fz:Nat × Nat),S k → W.heap[k]?=some (.cells cs t fz) → tyOwn t):FsP W' g X F:=by
  have e:∀ k,Own g F X k → W'.heap[k]?=W.heap[k]?:=fun k hk=>hm.oth k (h.own_lt hk) (fun hs=>hS k hs hk)
  obtain ⟨k1,hn⟩:=h.now
  obtain ⟨k2,hs⟩:=h.safe
  refine ⟨⟨h.ok,(e g (Or.inl rfl)).trans h.blk,⟨k1,hn.to (e _ (Or.inr (Or.inl rfl)))⟩,⟨k2,hs.to (e _ (Or.inr (Or.inr (Or.inl rfl))))⟩,h.mne,own_to h.chg (fun k hk=>e k (Or.inr (Or.inr (Or.inr (Or.inr (Or.inl hk)))))),h.row.to (fun k hk=>e k (Or.inr (Or.inr (Or.inr (Or.inr (Or.inr hk)))))),fun i x hl hx=>(h.fil i x hl hx).to (e _ (Or.inr (Or.inr (Or.inr (Or.inl ⟨i,hl,Or.inl rfl⟩))))) (fun k hk=>e k (Or.inr (Or.inr (Or.inr (Or.inl ⟨i,hl,Or.inr hk⟩))))),h.inj⟩,h.pln,fun q hq=>(h.hld q hq).to (fun k cs t fz hk ht=>hm.oth k (row_lt hk) (fun hs=>ht (hH k cs t fz hs hk)))⟩
theorem FsC.mod {W W':World} {S:Nat → Prop} {g:Nat} {X:Gh} {F:Fs} (h:FsC W g X F) (hm:ModP S W W') (hS:∀ k,S k → ¬ Own g F X k):FsC W' g X F:=by
  have e:∀ k,Own g F X k → W'.heap[k]?=W.heap[k]?:=fun k hk=>hm.oth k (h.own_lt hk) (fun hs=>hS k hs hk)
  obtain ⟨k1,hn⟩:=h.now
  obtain ⟨k2,hs⟩:=h.safe
  exact ⟨h.ok,(e g (Or.inl rfl)).trans h.blk,⟨k1,hn.to (e _ (Or.inr (Or.inl rfl)))⟩,⟨k2,hs.to (e _ (Or.inr (Or.inr (Or.inl rfl))))⟩,h.mne,own_to h.chg (fun k hk=>e k (Or.inr (Or.inr (Or.inr (Or.inr (Or.inl hk)))))),h.row.to (fun k hk=>e k (Or.inr (Or.inr (Or.inr (Or.inr (Or.inr hk)))))),fun i x hl hx=>(h.fil i x hl hx).to (e _ (Or.inr (Or.inr (Or.inr (Or.inl ⟨i,hl,Or.inl rfl⟩))))) (fun k hk=>e k (Or.inr (Or.inr (Or.inr (Or.inl ⟨i,hl,Or.inr hk⟩))))),h.inj⟩
theorem FsC.on {W W':World} {g:Nat} {X:Gh} {F:Fs} (h:FsC W g X F) (hb:Below W.heap.size W W'):FsC W' g X F:=h.mod (ModP.below (S:=fun _=>False) hb) (fun _ q=>q.elim)
theorem FsP.on {W W':World} {g:Nat} {X:Gh} {F:Fs} (h:FsP W g X F) (hb:Below W.heap.size W W'):FsP W' g X F:=h.mod (ModP.below (S:=fun _=>False) hb) (fun _ q=>q.elim) (fun _ _ _ _ q=>q.elim)
structure Sm (F:Fs) (X:Gh):Prop where
  st:F.steps ≤ 3298534883328
  fi:F.files.length ≤ 3298534883328
  ch:F.chg.length ≤ 3298534883328
  qs:X.qs.length ≤ 3298534883328
structure Fresh (b:Nat) (W:World) (q:Pq):Prop where
  bl:b ≤ q.b
  cr:q.c=true → ∃ v,W.heap[q.b]?=some (.cells #[v] 44)∧∀ k,v.ownBlock=some k → b ≤ k
theorem Fresh.le {b b':Nat} {W:World} {q:Pq} (h:Fresh b W q) (hb:b' ≤ b):Fresh b' W q:=⟨Nat.le_trans hb h.bl,fun hc=>by
  obtain ⟨v,h1,h2⟩:=h.cr hc
  exact ⟨v,h1,fun k hk=>Nat.le_trans hb (h2 k hk)⟩⟩
theorem Fresh.mod {b g:Nat} {W W':World} {X:Gh} {F:Fs} {q:Pq} (h:Fresh b W q) (hf:FsC W g X F) (hm:ModP (Own g F X) W W'):Fresh b W' q:=⟨h.bl,fun hc=>by
  obtain ⟨v,h1,h2⟩:=h.cr hc
  exact ⟨v,(hm.oth q.b (row_lt h1) (fun ho=>absurd (hf.own_ty ho h1) (by unfold tyOwn; decide))).trans h1,h2⟩⟩
structure Bec (w:World) (g:Nat) (X:Gh) (F:Fs) (w':World) (X':Gh) (F':Fs):Prop where
  is:FsP w' g X' F'
  md:ModP (Own g F X) w w'
  own:∀ k,Own g F' X' k → Own g F X k ∨ w.heap.size ≤ k
  len:X'.qs.length ≤ X.qs.length + 1
  nq:∀ q ∈ X'.qs,q ∈ X.qs ∨ Fresh w.heap.size w' q
theorem FsC.cells {W:World} {g:Nat} {X:Gh} {F:Fs} (h:FsC W g X F):W.cell? ⟨g,0,none⟩=some (.bool F.down)∧W.cell? ⟨g,1,none⟩=some (.int .i64 (F.steps:Int))∧W.cell? ⟨g,2,none⟩=some (.int .i64 (F.files.length:Int))∧W.cell? ⟨g,3,none⟩=some (.map (some X.mn))∧W.cell? ⟨g,4,none⟩=some (.map (some X.ms))∧W.cell? ⟨g,5,none⟩=some X.cv∧W.cell? ⟨g,6,none⟩=some X.qv∧∀ j,W.frozen? ⟨g,j,none⟩=false:=by
  refine ⟨?_,?_,?_,?_,?_,?_,?_,fun j=>frozen_of_row _ _ _ _ _ h.blk⟩ <;> (rw [cell_of_row _ _ _ _ _ _ h.blk]; rfl)
end Go.Proofs.YtbgbmfmgdgalbaaGreatDoor
namespace Go.Proofs.YtbgbmfmgdgalbaaGreatDoor
open Go.RowKit Go.Maps
set_option linter.unusedVariables false
set_option linter.unusedSimpArgs false
theorem dirF_some {d:List Sl} {n:Nat} (hd:DOk d n) {fb:Nat → Nat} {m:ByteArray} {b:Nat} (h:dirF d fb m=some b):∃ x ∈ d,x.1=m∧∃ i:Nat,x.2=(i:Int)∧i < n∧b=fb i∧findM d m=(i:Int):=by
  unfold dirF at h
  by_cases hf:findM d m < 0
  · rw [if_pos hf] at h; cases h
  · rw [if_neg hf] at h
    cases h
    obtain ⟨x,hx,e1,e2⟩:=findM_mem hf
    have h1:=hd.ge x hx
    have h2:=hd.lt x hx
    exact ⟨x,hx,e1,x.2.toNat,by omega,by omega,by rw [e2],by omega⟩
def valN (F:Fs) (m:ByteArray):ByteArray:=(F.files.getD (findM F.dir m).toNat ⟨⟨#[]⟩,0⟩).d
theorem now_list {F:Fs} {n:Nat} (h:DOk F.dir n):(F.dir.map (·.1)).map (fun m=>(m,valN F m))=nowM F:=by
  unfold nowM
  rw [List.map_map]
  refine List.map_congr_left (fun x hx=>?_)
  simp only [Function.comp,valN,findM_in h.rise hx]
set_option maxHeartbeats 1000000 in
theorem Now1_any (b i:Nat) (x:Fi) (pv:Value) (ps:List ByteArray) (w:World) (h:FileAt w b i x pv ps):Calls Tryz.prog 35 #[ptr (some b)] w fun e w'=>e=.returned (.string x.d)∧Below w.heap.size w w':=by
  obtain ⟨d0,d1,d2,d3,df⟩:=file_cells h.blk
  have HF:Hid _:=h.first x.d.size (Nat.le_refl _)
  have HE:Hid (x.d.extract 0 x.d.size=x.d):=ext_all _
  obtain ⟨sz,hsz⟩:∃ sz,x.d.size=sz:=⟨_,rfl⟩
  rw [hsz] at d2 HF HE
  clear h hsz df
  unfold ptr at HF ⊢
  go_enter Tryz.func35,Tryz.ntmps35
  go_wp2_with fail
  refine (show Calls _ _ _ _ _ from HF.out).mono ?_
  rintro e w1 ⟨rfl,hb⟩
  rw [HE.out]
  go_wp2
  go_ret
  exact ⟨rfl,hb⟩
theorem FsC.file {W:World} {g:Nat} {X:Gh} {F:Fs} (h:FsC W g X F) {i:Nat} (hl:Live F X i):FileAt W (X.fb i) i (F.files.getD i ⟨⟨#[]⟩,0⟩) (X.pv i) (X.ps i):=by
  have hlt:=h.live_lt hl
  have e:F.files.getD i ⟨⟨#[]⟩,0⟩=F.files[i]:=by rw [List.getD_eq_getElem?_getD,List.getElem?_eq_getElem hlt]; rfl
  rw [e]
  exact h.fil i _ hl (List.getElem?_eq_getElem hlt)
set_option maxHeartbeats 1000000 in
theorem Now_any (g:Nat) (X:Gh) (F:Fs) (w:World) (h:FsP w g X F):Calls Tryz.prog 14 #[ptr (some g)] w fun e w'=>∃ v,e=.returned v∧w'.ownsRow w.heap.size 41 2 v F.dir.length (pprE.fl (nowM F))∧Below w.heap.size w w':=by
  obtain ⟨c0,c1,c2,c3,_⟩:=h.cells
  have hfew:=h.ok.dir.few
  have HP:Hid _:=pairs_any 35 (fun args w=>by kernel_rfl) (valN F) X.mn F.dir.length (dirF F.dir X.fb) (F.dir.map (·.1)) (names_of h.ok.dir X.fb) (by omega) (by rw [List.length_map]; omega) (fun m hm=>by
      obtain ⟨x,hx,rfl⟩:=List.mem_map.1 hm
      have:=(named_size (h.ok.dir.nam x hx)).2; omega) w h.now_k (fun m b hb W' hW=>by
      obtain ⟨x,hx,e1,i,e2,h2,rfl,h3⟩:=dirF_some h.ok.dir hb
      have hl:Live F X i:=Or.inl ⟨x,hx,e2⟩
      have:=Now1_any _ _ _ _ _ W' ((h.on hW).file hl)
      have ev:valN F m=(F.files.getD i ⟨⟨#[]⟩,0⟩).d:=by unfold valN; rw [h3]; rfl
      rw [ev]; exact this)
  rw [now_list h.ok.dir,List.length_map] at HP
  clear h hfew
  unfold ptr
  go_enter Tryz.func14,Tryz.ntmps14
  go_wp2_with fail
  refine (show Calls _ _ _ _ _ from HP.out).mono ?_
  rintro e w1 ⟨v,rfl,ho,hb⟩
  go_wp2
  go_ret
  exact ⟨v,rfl,ho,hb⟩
end Go.Proofs.YtbgbmfmgdgalbaaGreatDoor
namespace Go.Proofs.YtbgbmfmgdgalbaaGreatDoor
open Go.RowKit Go.Maps
set_option linter.unusedVariables false
set_option linter.unusedSimpArgs false
theorem Bec.refl {w:World} {g:Nat} {X:Gh} {F:Fs} (h:FsP w g X F):Bec w g X F w X F:=⟨h,ModP.refl _ _,fun k hk=>Or.inl hk,by omega,fun q hq=>Or.inl hq⟩
theorem FsC.ne_g {W:World} {g:Nat} {X:Gh} {F:Fs} (h:FsC W g X F):X.mn ≠ g∧X.ms ≠ g∧(∀ i,Live F X i → X.fb i ≠ g∧∀ k,(X.pv i).ownBlock=some k → k ≠ g)∧(∀ k,X.cv.ownBlock=some k → k ≠ g)∧(∀ k,X.qv.ownBlock=some k → k ≠ g):=by
  have key:∀ {k:Nat} {cs:Array Value} {t:Nat} {fz:Nat × Nat},W.heap[k]?=some (.cells cs t fz) → t ≠ 74 → k ≠ g:=fun hk ht e=>by
    subst e
    have:=hk.symm.trans h.blk
    injection this with this
    injection this with _ h2
    exact ht h2
  refine ⟨h.now_k.ne h.blk,h.safe_k.ne h.blk,fun i hl=>⟨key (h.file hl).blk (by decide),fun k hk=>?_⟩,fun k hk=>?_,fun k hk=>?_⟩
  · obtain ⟨cur,hc⟩:=own_type (h.file hl).own hk; exact key hc (by decide)
  · obtain ⟨cur,hc⟩:=own_type h.chg hk; exact key hc (by decide)
  · obtain ⟨cur,hc⟩:=h.row.type hk; exact key hc (by decide)
theorem FsP.flag {W W':World} {g:Nat} {X:Gh} {F F':Fs} (h:FsP W g X F) (ho:Only W W' g) (hF:F'.files=F.files∧F'.dir=F.dir∧F'.sure=F.sure∧F'.chg=F.chg) (hb:W'.heap[g]?=some (.cells #[.bool F'.down,.int .i64 (F'.steps:Int),.int .i64 (F'.files.length:Int),.map (some X.mn),.map (some X.ms),X.cv,X.qv] 74)) (hp:Plans F' X.qs) (hh:∀ q ∈ X.qs,Holds W F q → Holds W F' q):FsP W' g X F':=by
  obtain ⟨n1,n2,n3,n4,n5⟩:=h.ne_g
  obtain ⟨e1,e2,e3,e4⟩:=hF
  have eL:∀ i,Live F' X i ↔ Live F X i:=fun i=>by unfold Live; rw [e2,e3]
  have eo:∀ k,dirK F' k=dirK F k:=fun k=>by unfold dirK; rw [e3,e4]
  have ec:chgL F' X=chgL F X:=by unfold chgL; rw [e4]
  obtain ⟨k1,hn⟩:=h.now
  obtain ⟨k2,hs⟩:=h.safe
  refine ⟨⟨⟨fun k hk=>?_,?_,?_,?_,?_⟩,hb,⟨k1,?_⟩,⟨k2,?_⟩,h.mne,?_,h.row.to (fun k hk=>ho.other k (n5 k hk)),fun i x hl hx=>?_,fun i j hi hj=>h.inj i j ((eL i).1 hi) ((eL j).1 hj)⟩,hp,fun q hq=>?_⟩
  · rw [eo,e1]; exact h.ok.dirs k (by rw [← e4]; exact hk)
  · rw [eo,e2,e4]; exact h.ok.now
  · rw [e4]; exact h.ok.cl
  · rw [e1]; exact h.ok.cfl
  · rw [e4]; exact h.ok.ch
  · rw [e2]; exact hn.to (ho.other _ n1)
  · rw [e3]; exact hs.to (ho.other _ n2)
  · rw [ec,e4]; exact own_to h.chg (fun k hk=>ho.other k (n4 k hk))
  · rw [e1] at hx
    have hl':=(eL i).1 hl
    exact (h.fil i x hl' hx).to (ho.other _ (n3 i hl').1) (fun k hk=>ho.other k ((n3 i hl').2 k hk))
  · refine (hh q hq (h.hld q hq)).to (fun k cs t fz hk ht=>ho.other k (fun e=>ht ?_))
    subst e
    have:=hk.symm.trans h.blk
    injection this with this
    injection this with _ h2
    rw [h2]; exact Or.inl rfl
theorem fs_set {W:World} {g:Nat} {a0 a1 a2 a3 a4 a5 a6:Value} (h:W.heap[g]?=some (.cells #[a0,a1,a2,a3,a4,a5,a6] 74)) (j:Nat) (v:Value):(W.setCell ⟨g,j,none⟩ v).heap[g]?=some (.cells (#[a0,a1,a2,a3,a4,a5,a6].setIfInBounds j v) 74)∧Only W (W.setCell ⟨g,j,none⟩ v) g:=⟨heap_setCell_same W g j _ _ v h,(Only.refl _ _).set _ _⟩
end Go.Proofs.YtbgbmfmgdgalbaaGreatDoor
