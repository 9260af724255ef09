import Derived.Test.YtbgbmfmgdgalbaaGreatDoorM29
import Derived.Maps.AppendAt
namespace Go.Proofs.YtbgbmfmgdgalbaaGreatDoor
open Go.RowKit Go.Maps
set_option linter.unusedVariables false
set_option linter.unusedSimpArgs false
def isRR (D:Nat):Prop:=D=145 ∨ D=140
def CapR (W:World) (k:Nat):Prop:=∀ cur fz,W.heap[k]?=some (.cells cur 160 fz) → ∃ x:FnV,cur[0]?=some (fnV x)∧isRR x.1
theorem capR_of {W:World} {k T:Nat} {cur:Array Value} {fz:Nat × Nat} (h:W.heap[k]?=some (.cells cur T fz)) (hT:T ≠ 160):CapR W k:=fun c f hc=>by
  rw [h] at hc
  injection hc with hc
  injection hc with _ h2 _
  exact absurd h2 hT
theorem capR_do {W:World} {k:Nat} {x:FnV} (h:W.heap[k]?=some (.cells #[fnV x] 160)) (hx:isRR x.1):CapR W k:=fun c f hc=>by
  rw [h] at hc
  injection hc with hc
  injection hc with h1 _ _
  subst h1
  exact ⟨x,rfl,hx⟩
def KB (Z:Nat → Prop) (lo:Nat) (W:World) (k:Nat):Prop:=Z k ∨ (lo ≤ k∧k < W.heap.size∧CapR W k)
theorem KB.to {Z:Nat → Prop} {lo k:Nat} {W W':World} (h:KB Z lo W k) (he:W'.heap[k]?=W.heap[k]?) (hs:W.heap.size ≤ W'.heap.size):KB Z lo W' k:=by
  rcases h with h | ⟨a,b,c⟩
  · exact Or.inl h
  · exact Or.inr ⟨a,by omega,fun cur fz hc=>c cur fz (by rw [← he]; exact hc)⟩
structure Lst (Z:Nat → Prop) (lo:Nat) (W:World) (g:Nat) (v:Value) (L:List Sp):Prop where
  row:W.ownsRow lo 160 1 v L.length (stpE.fl (L.map (·.1)))
  all:∀ s ∈ L,StepV W (KB Z lo W) g s
  siz:lo ≤ W.heap.size
  zlt:∀ k,Z k → k < lo
  one:∀ s T,L=s :: T → ¬ isRR s.1.1
  nil:L=[] → v.ownBlock=none
theorem Lst.lt {Z:Nat → Prop} {lo g:Nat} {W:World} {v:Value} {L:List Sp} (h:Lst Z lo W g v L) {k:Nat} (hk:KB Z lo W k):k < W.heap.size:=by
  rcases hk with hz | ⟨_,b,_⟩
  · have:=h.zlt k hz; have:=h.siz; omega
  · exact b
theorem Lst.on {Z:Nat → Prop} {lo g:Nat} {W W':World} {v:Value} {L:List Sp} (h:Lst Z lo W g v L) (hb:Below W.heap.size W W'):Lst Z lo W' g v L:=
  ⟨own_bel h.row hb,fun s hs=>(h.all s hs).more (fun k hk=>⟨hk.to (hb.block k (h.lt hk)) hb.size,hb.block k (h.lt hk)⟩),Nat.le_trans h.siz hb.size,h.zlt,h.one,h.nil⟩
theorem stp_fl (L:List Sp):stpE.fl (L.map (·.1))=L.map fun s=>fnV s.1:=by
  induction L with
  | nil=>rfl
  | cons s L ih =>
    show fnV s.1 :: stpE.fl (L.map (·.1))=_
    rw [ih]; rfl
theorem Lst.keep {Z:Nat → Prop} {lo g k:Nat} {W w':World} {v:Value} {L:List Sp} (h:Lst Z lo W g v L) (hg:W.grownBy w' v.ownBlock) (hk:KB Z lo W k):w'.heap[k]?=W.heap[k]?:=by
  refine hg.block k (h.lt hk) (fun e=>?_)
  obtain ⟨_,⟨rfl,_⟩ | ⟨gg,cap,cur,rfl,hb,hrow,h1,h2,h3,h4⟩⟩:=h.row
  · cases e
  · have e1:k=gg:=by simpa [Value.ownBlock] using e
    subst e1
    rcases hk with hz | ⟨_,_,hc⟩
    · have:=h.zlt k hz; omega
    · obtain ⟨x,hx,hr⟩:=hc cur (0,0) hrow
      rw [stp_fl,Nat.mul_one] at h4
      cases L with
      | nil=>exact absurd (h.nil rfl) (by simp [Value.ownBlock])
      | cons s T =>
        have h5:(cur.toList.take (s :: T).length)[0]?=some (fnV s.1):=by rw [h4]; rfl
        rw [List.getElem?_take_of_lt (by simp)] at h5
        rw [← Array.getElem?_toList] at hx
        rw [hx] at h5
        injection h5 with h5
        unfold fnV at h5
        injection h5 with h6 _ _
        injection h6 with h6
        exact h.one s T rfl (h6 ▸ hr)
theorem Lst.grow {Z:Nat → Prop} {lo g:Nat} {W w':World} {v v':Value} {L:List Sp} {s:Sp} (h:Lst Z lo W g v L) (hs:StepV W (KB Z lo W) g s) (h1:L=[] → ¬ isRR s.1.1) (ho:w'.ownsRow lo 160 1 v' (L.length + 1) (stpE.fl (L.map (·.1) ++ [s.1]))) (hg:W.grownBy w' v.ownBlock):Lst Z lo w' g v' (L ++ [s]):=by
  refine ⟨by rw [List.length_append,List.map_append]; exact ho,fun x hx=>?_,Nat.le_trans h.siz hg.size,h.zlt,fun x T e=>?_,fun e=>absurd e (by simp)⟩
  · have hx':StepV W (KB Z lo W) g x:=by
      rcases List.mem_append.1 hx with hx | hx
      · exact h.all x hx
      · rw [List.mem_singleton] at hx; subst hx; exact hs
    exact hx'.more (fun k hk=>⟨hk.to (h.keep hg hk) hg.size,h.keep hg hk⟩)
  · cases L with
    | nil =>
      rw [List.nil_append] at e
      injection e with e1 _
      rw [← e1]; exact h1 rfl
    | cons y T' =>
      rw [List.cons_append] at e
      injection e with e1 _
      rw [← e1]; exact h.one y T' rfl
theorem Lst.empty {Z:Nat → Prop} {lo g:Nat} {W:World} (hlo:lo ≤ W.heap.size) (hz:∀ k,Z k → k < lo):Lst Z lo W g (.slice none 0 0) []:=
  ⟨⟨rfl,Or.inl ⟨rfl,rfl⟩⟩,fun s hs=>(by cases hs),hlo,hz,fun s T e=>(by cases e),fun _=>rfl⟩
theorem Lst.lits {Z:Nat → Prop} {lo g b:Nat} {W:World} {L:List Sp} (hb:lo ≤ b) (hr:W.heap[b]?=some (.cells (L.map fun s=>fnV s.1).toArray 160)) (hs:∀ s ∈ L,StepV W (KB Z lo W) g s) (h1:∀ s T,L=s :: T → ¬ isRR s.1.1) (h0:L ≠ []) (hm:L.length ≤ 1048576) (hz:∀ k,Z k → k < lo):Lst Z lo W g (.slice (some ⟨b,0,none⟩) L.length L.length) L:=by
  refine ⟨⟨by rw [stp_fl,List.length_map,Nat.mul_one],Or.inr ⟨b,L.length,_,rfl,hb,hr,Nat.le_refl _,by unfold maxLen; omega,by simp,?_⟩⟩,hs,Nat.le_trans hb (Nat.le_of_lt (row_lt hr)),hz,h1,fun e=>absurd e h0⟩
  rw [stp_fl,Nat.mul_one]
  show ((L.map fun s=>fnV s.1).toArray.toList).take L.length=_
  rw [List.take_of_length_le (by simp)]
theorem Lst.run {Z:Nat → Prop} {lo g:Nat} {W:World} {v:Value} {L:List Sp} (h:Lst Z lo W g v L) (hn:L.length ≤ 1048576) {w0:World} {X:Gh} {F:Fs} {i:Nat} (hs:St w0 W g X F i) (hI:Inv F i) (hi:i + tot L + 1 ≤ 3298534883000) (hz:∀ k,Z k → ¬ Own g F X k) (hlo:∀ k,Own g F X k → k < lo):Calls Tryz.prog 62 #[v] W (CalP w0 W g X F (seqM (msL L) F).1 (i + tot L) (.int .i64 (seqM (msL L) F).2)):=
  inOrder_any L W (KB Z lo W) g h.all hn w0 W X F i hs hI hi (fun k hk=>⟨⟨W.heap[k]'(h.lt hk),Array.getElem?_eq_getElem (h.lt hk),Array.getElem?_eq_getElem (h.lt hk)⟩,by
    rcases hk with hk | ⟨a,_,_⟩
    · exact hz k hk
    · intro ho; have:=hlo k ho; omega⟩) lo v h.row (fun k hk ho=>by
      have h1:=(h.row.lt k hk).1
      have h2:=hlo k ho
      omega)
theorem Lst.other {Z:Nat → Prop} {lo g k T:Nat} {W w':World} {v:Value} {L:List Sp} {cs:Array Value} {fz:Nat × Nat} (h:Lst Z lo W g v L) (hg:W.grownBy w' v.ownBlock) (hk:W.heap[k]?=some (.cells cs T fz)) (hT:T ≠ 160):w'.heap[k]?=some (.cells cs T fz):=by
  refine (hg.block k (row_lt hk) (fun e=>?_)).trans hk
  obtain ⟨cur,hc⟩:=own_type h.row e.symm
  rw [hc] at hk
  injection hk with hk
  injection hk with _ h2 _
  exact hT h2.symm
theorem step_appS {w:World} {ops:Array Oper} {o:Oper} {a:Act} {K:Act → World → Prop} {Q:Exit → Act → World → Prop} {E0:Prop} (x1:FnV) (hg:o.guard=none) (s x:Operand)
    (hop:o.op=Op.call { callee:=Callee.builtin Builtin.append,args:=#[s,x],argTypes:=#[124,124] })
    (b:Nat) (v:Value) (n:Nat) (xs:List FnV) (hn:n=xs.length) (hs:a.eval s=v) (hown:w.ownsRow b 160 1 v n (stpE.fl xs)) (B:Nat) (hx:a.eval x=.slice (some ⟨B,0,none⟩) 1 1) (hB:w.heap[B]?=some (.cells #[fnV x1] 160)) (hl:n + 1 ≤ 1048577) (hb:b ≤ w.heap.size)
    (h:∀ v' w',w'.ownsRow b 160 1 v' (n + 1) (stpE.fl (xs ++ [x1])) → w.grownBy w' v.ownBlock → K (a.put o.dst v') w') :
    if Region.wanted o (yielded ops a.tmps)=true then Oper.wp Tryz.prog o a w K Q else E0:=by
  subst hn
  have hw:Region.wanted o (yielded ops a.tmps)=true:=by simp [Region.wanted,hg]
  rw [if_pos hw]
  obtain ⟨i0,hi,hz0,hz1,hz2⟩:=info_of stpOk.inf
  obtain ⟨v',w',hrun,h2,h3,h4,h5⟩:=run_append_own_at (P:=Tryz.prog) w b 124 o.type 160 i0 stpE.z stpE.k stpE.by_ stpOk.und hi hz0 hz1 hz2 stpOk.zc stpOk.kp v xs.length (stpE.fl xs) hown ⟨B,0,none⟩ 1 1 (stpE.fl [x1]) (ET.fl_len stpOk [x1]) (fun j u hu=>by
    rw [Lib.add_plain,Nat.zero_add,cell_of_row _ _ _ _ _ _ hB]
    have:stpE.fl [x1]=[fnV x1]:=rfl
    rw [this] at hu; simpa using hu) (ET.fl_one stpOk [x1]) (by unfold maxLen; omega) (by show _ * 8 ≤ _; omega) hb
  unfold Oper.wp
  simp [execOp,hop,resolve,invoke,builtin,hs,hx,hrun,Result.andThen]
  exact h v' w' (by rw [ET.fl_app]; exact h2) h3
end Go.Proofs.YtbgbmfmgdgalbaaGreatDoor
namespace Go.Proofs.YtbgbmfmgdgalbaaGreatDoor
open Go.RowKit Go.Maps
set_option linter.unusedVariables false
set_option linter.unusedSimpArgs false
theorem kb_new {Z:Nat → Prop} {lo k T:Nat} {W:World} {cur:Array Value} {fz:Nat × Nat} (h:W.heap[k]?=some (.cells cur T fz)) (hlo:lo ≤ k) (hT:T ≠ 160):KB Z lo W k:=Or.inr ⟨hlo,row_lt h,capR_of h hT⟩
theorem nrr (D:Nat) (h:D ≠ 145∧D ≠ 140):¬ isRR D:=fun q=>q.elim h.1 h.2
theorem ext_pl {t:ByteArray} {pl:Nat} (h:pl ≤ t.size):(t.extract 0 pl).size=pl:=by simp; omega
set_option maxHeartbeats 8000000 in
set_option maxRecDepth 400000 in
theorem pwrite_any {w0 w:World} {g S i:Nat} {X:Gh} {F:Fs} {t0:ByteArray} {keep:Int} (h:St w0 w g X F i) (hI:Inv F i) (n t:ByteArray) (hn:n.size ≤ 140737488355328) (ht:t.size ≤ 1073741824) (hi:i + 16387 ≤ 3298534883000) (hS:w.heap[S]?=some (.cells #[ptr (some g),.string t0,.int .i64 keep] 77)) (hSo:¬ Own g F X S) :
    Calls Tryz.prog 106 #[ptr (some S),.string n,.string t] w (CalP w0 w g X F (writtenM F n t).1 (i + 16386) (.int .i64 (writtenM F n t).2)):=by
  obtain ⟨R,hR⟩:∃ R,w.heap.size=R:=⟨_,rfl⟩
  obtain ⟨n1,n2,n2',n3,n4⟩:=three_new (w:=w) (.cells #[.pointer (some ⟨S,0,none⟩)] 75) (.cells #[.string n] 9) (.cells #[.func (.func 141) #[] #[.pointer (some ⟨R,0,none⟩),.pointer (some ⟨R + 1,0,none⟩)]] 160)
  obtain ⟨W0,hW0⟩:∃ W0,((w.alloc (.cells #[.pointer (some ⟨S,0,none⟩)] 75)).alloc (.cells #[.string n] 9)).alloc (.cells #[.func (.func 141) #[] #[.pointer (some ⟨R,0,none⟩),.pointer (some ⟨R + 1,0,none⟩)]] 160)=W0:=⟨_,rfl⟩
  rw [hW0] at n1 n2 n2' n3 n4
  rw [hR] at n1 n2 n2' n3
  have hSR:S < R:=by rw [← hR]; exact row_lt hS
  have hSv:∀ W,Below w.heap.size w W → Sv W (KB (fun k=>k=S) R W) S g:=fun W hb=>⟨Or.inl rfl,t0,keep,keep_row hS hb⟩
  have hzl:∀ k,k=S → k < R:=fun k e=>by rw [e]; exact hSR
  have HL0:Hid (Lst (fun k=>k=S) R W0 g (.slice (some ⟨R + 1 + 1,0,none⟩) 1 1) [((141,#[],#[ptr (some R),ptr (some (R + 1))]),(fun G=>createM G n),1)]):=
    Lst.lits (L:=[((141,#[],#[ptr (some R),ptr (some (R + 1))]),(fun G=>createM G n),1)]) (by omega) n2' (fun s hs=>by
      rw [List.mem_singleton] at hs; subst hs
      exact wr1_stp (hSv W0 n4) (kb_new n1 (Nat.le_refl _) (by decide)) n1 (kb_new n2 (by omega) (by decide)) n2 hn) (fun s T e=>by injection e with e1 _; subst e1; exact nrr 141 (by decide)) (by simp) (by simp) hzl
  have HB0:Hid (Below w.heap.size w W0):=n4
  have HN1:Hid (W0.heap[R]?=some (.cells #[.pointer (some ⟨S,0,none⟩)] 75)):=n1
  have HN2:Hid (W0.heap[R + 1]?=some (.cells #[.string n] 9)):=n2
  have HRR:Hid (w.heap.size=R):=hR
  have HW0:Hid (W0.heap.size=R + 3):=n3
  have HST:Hid _:=h
  have HI:Hid _:=hI
  have HSV:Hid (∀ W,Below w.heap.size w W → Sv W (KB (fun k=>k=S) R W) S g):=hSv
  have HSO:Hid (¬ Own g F X S):=hSo
  have HNS:Hid (n.size ≤ 140737488355328):=hn
  have HTS:Hid (t.size ≤ 1073741824):=ht
  have HIB:Hid (i + 16387 ≤ 3298534883000):=hi
  have HPT:Hid (piecesN t.size ≤ 16384):=pieces_le ht
  clear h hI hn ht hi hS hSo hSv hzl n1 n2 n2' n3 n4 hSR
  show Calls _ _ #[.pointer (some ⟨S,0,none⟩),.string n,.string t] _ _
  go_enter Tryz.func106,Tryz.ntmps106
  go_upto_region 2 with fail
  try rw [hW0]
  clear hW0 hR
  go_loopw [2,7] (fun tv sv wr=>∃ (t':ByteArray) (k:Nat) (L:List Sp) (P:Option Addr) (c N:Nat),tv=.string t'∧sv=.slice P N c∧N=L.length∧Lst (fun k=>k=S) R wr g (.slice P N c) L∧Below w.heap.size w wr∧wr.heap[R]?=some (.cells #[.pointer (some ⟨S,0,none⟩)] 75)∧wr.heap[R + 1]?=some (.cells #[.string n] 9)∧t'.size ≤ k∧t'.size ≤ t.size∧msL L ++ ((piecesL k t').map fun p G=>appendM G n p)=(fun G=>createM G n) :: ((piecesL t.size t).map fun p G=>appendM G n p)∧tot L + piecesN t'.size=piecesN t.size + 1∧N + piecesN t'.size=piecesN t.size + 1∧0 < N) (fun tv _ _=>(match tv with | .string x=>x.size | _=>0))
  case atStart=>exact ⟨t,t.size,_,_,_,1,rfl,rfl,rfl,HL0.out,HB0.out,HN1.out,HN2.out,Nat.le_refl _,Nat.le_refl _,rfl,by rw [tot_one]; show 1 + _=_; omega,by omega,by omega⟩
  case round =>
    obtain ⟨t',k,L,P,c,N,rfl,rfl,hN,hl,hb,r0,r1,htk,htl,hms,htot,hcnt,hpos⟩:=hrel
    have HL:Hid (Lst (fun k=>k=S) R wr g (.slice P N c) L):=hl
    have HB:Hid (Below w.heap.size w wr):=hb
    have HR0:Hid (wr.heap[R]?=some (.cells #[.pointer (some ⟨S,0,none⟩)] 75)):=r0
    have HR1:Hid (wr.heap[R + 1]?=some (.cells #[.string n] 9)):=r1
    have HMS:Hid (msL L ++ ((piecesL k t').map fun p G=>appendM G n p)=(fun G=>createM G n) :: ((piecesL t.size t).map fun p G=>appendM G n p)):=hms
    have HTOT:Hid (tot L + piecesN t'.size=piecesN t.size + 1):=htot
    have HCNT:Hid (N + piecesN t'.size=piecesN t.size + 1):=hcnt
    have HPOS:Hid (0 < N):=hpos
    have HNL:Hid (N=L.length):=hN
    have HTK:Hid (t'.size ≤ k):=htk
    have HTL:Hid (t'.size ≤ t.size):=htl
    clear hl hb r0 r1 hms htot hcnt hpos hN htk htl HL0 HB0 HN1 HN2 HW0
    have HRS:Hid (R ≤ wr.heap.size):=by have:=HB.out.size; have:=HRR.out; show _ ≤ _; omega
    by_cases h0:t'.size=0
    · have hg0:¬ (0:Int) < (t'.size:Int):=by omega
      have hts:t'=⟨#[]⟩:=by
        cases t' with
        | mk a=>cases a with
          | mk l=>cases l with
            | nil=>rfl
            | cons x l=>simp [ByteArray.size] at h0
      have HPZ:Hid (piecesL k t'=[]):=by
        show _=_
        cases k with
        | zero=>rfl
        | succ k=>show (if t'.size=0 then [] else _)=_; rw [if_pos h0]
      have HRW:Hid (wr.ownsRow R 160 1 (.slice P N c) N (stpE.fl (L.map (·.1)))):=by
        have:=HL.out.row
        rw [← HNL.out] at this
        exact this
      have HLM:Hid ((L.map (·.1)).length=N):=by show _=_; rw [List.length_map,HNL.out]
      have HNB:Hid (N ≤ 16385):=by have:=HCNT.out; have:=HPT.out; show _ ≤ _; omega
      have HPT0:Hid (piecesN t'.size=0):=by show _=_; rw [h0]; rfl
      clear hts
      go_upto_region 6 with fail
      go_wp2_with ((at_builtin; go_loud (refine wpList_one stpOk #[.func (.func 143) #[] #[.pointer (some ⟨R,0,none⟩),.pointer (some ⟨R + 1,0,none⟩)]] (143,#[],#[ptr (some R),ptr (some (R + 1))]) rfl rfl _ _ rfl R (.slice P N c) (List.map (fun s:Sp=>s.1) L) N HLM.out.symm rfl HRW.out rfl (by rw [HLM.out]; have:=HNB.out; unfold maxLen; omega) (by rw [HLM.out]; have:=HNB.out; show _ * 8 ≤ _; omega) HRS.out ?_); intro v4 w4 ho4 hg4; obtain ⟨P4,c4,hf4⟩:=own_form ho4; subst hf4))
      obtain ⟨Wb,hWb⟩:∃ Wb,wr.alloc (.cells #[.func (.func 143) #[] #[.pointer (some ⟨R,0,none⟩),.pointer (some ⟨R + 1,0,none⟩)]] 160)=Wb:=⟨_,rfl⟩
      have hbb:Below wr.heap.size wr Wb:=by rw [← hWb]; exact (Below.refl _ _).alloc (Nat.le_refl _) _
      have hg5:Wb.grownBy w4 (Value.slice P N c).ownBlock:=by rw [← hWb]; exact hg4
      have HLB:Hid (Lst (fun k=>k=S) R Wb g (.slice P N c) L):=HL.out.on hbb
      have HRB0:Hid (Wb.heap[R]?=some (.cells #[.pointer (some ⟨S,0,none⟩)] 75)):=keep_row HR0.out hbb
      have HRB1:Hid (Wb.heap[R + 1]?=some (.cells #[.string n] 9)):=keep_row HR1.out hbb
      have HB4:Hid (Below w.heap.size w Wb):=bel_to HB.out hbb (Nat.le_refl _)
      have HSB:Hid (StepV Wb (KB (fun k=>k=S) R Wb) g ((143,#[],#[ptr (some R),ptr (some (R + 1))]),(fun G=>syncM G n),1)):=
        wr3_stp (HSV.out Wb HB4.out) (kb_new HRB0.out (Nat.le_refl _) (by decide)) HRB0.out (kb_new HRB1.out (by omega) (by decide)) HRB1.out HNS.out
      have HL4:Hid (Lst (fun k=>k=S) R w4 g (.slice P4 (N + 1) c4) (L ++ [((143,#[],#[ptr (some R),ptr (some (R + 1))]),(fun G=>syncM G n),1)])):=
        HLB.out.grow HSB.out (fun e=>by have:=HPOS.out; rw [HNL.out,e] at this; simp at this) (by rw [← HNL.out]; exact ho4) hg5
      have HB5:Hid (Below w.heap.size w w4):=HB4.out.grown hg5 HB4.out.size (fun j hj=>by have:=(HRW.out.lt j hj).1; have:=HRR.out; omega)
      have HTT:Hid (tot (L ++ [((143,#[],#[ptr (some R),ptr (some (R + 1))]),(fun G=>syncM G n),1)]) ≤ 16386):=by
        rw [tot_app,tot_one]; have:=HTOT.out; have:=HPT.out; have:=HPT0.out; show _ + 1 ≤ _; omega
      have HWL:Hid (seqM (msL (L ++ [((143,#[],#[ptr (some R),ptr (some (R + 1))]),(fun G=>syncM G n),1)])) F=writtenM F n t):=by
        show _=_
        rw [← seq_write]
        congr 1
        have h2:=HMS.out
        rw [HPZ.out,List.map_nil,List.append_nil] at h2
        show msL (L ++ [_])=_
        unfold writeL
        rw [← h2]
        unfold msL
        rw [List.map_append]
        rfl
      have HQ:Hid _:=HL4.out.run (by rw [List.length_append]; have:=HNL.out; have:=HNB.out; simp; omega) (HST.out.on HB5.out) HI.out (by have:=HTT.out; have:=HIB.out; omega) (fun k e=>by rw [e]; exact HSO.out) (fun k hk=>by have:=HST.out.fs.own_lt hk; have:=HRR.out; omega)
      rw [HWL.out] at HQ
      clear hWb hbb ho4 hg4 hg5
      go_wp2_with fail
      refine (show Calls _ _ _ _ _ from HQ.out).mono ?_
      rintro e w5 ⟨rfl,X2,hs2,hb2⟩
      have HS2:Hid _:=hs2
      have HB2:Hid _:=hb2
      clear hs2 hb2 HQ
      go_wp2
      go_returns
      exact ⟨rfl,X2,HS2.out.more24 (by have:=HTT.out; omega),Bt.pre HB5.out HB2.out⟩
    · have hg0:(0:Int) < (t'.size:Int):=by omega
      obtain ⟨pl,hpl⟩:∃ pl,min 65536 t'.size=pl:=⟨_,rfl⟩
      obtain ⟨pc,hpc⟩:∃ pc,t'.extract 0 pl=pc:=⟨_,rfl⟩
      obtain ⟨t3,ht3⟩:∃ t3,t'.extract pl t'.size=t3:=⟨_,rfl⟩
      have hps:pc.size=pl:=by rw [← hpc]; exact ext_pl (by omega)
      have ht3s:t3.size=t'.size - pl:=by rw [← ht3]; simp
      have hz1:(0:Int) ≤ (pl:Int):=by omega
      have hz2:(pl:Int) ≤ (t'.size:Int):=by omega
      have hz3:pl ≤ t'.size:=by omega
      have hm1:min (t'.size:Int) (65536:Int)=(pl:Int):=by omega
      have hm2:min (65536:Int) (t'.size:Int)=(pl:Int):=by omega
      have he0:t'.toList.isEmpty=false:=str_full h0
      have HSZ:Hid (t3.size ≤ t.size∧t3.size < t'.size∧t3.size + 1 ≤ k):=by have:=HTK.out; have:=HTL.out; show _∧_∧_; omega
      have HPN:Hid (piecesN t'.size=piecesN t3.size + 1):=by
        show _=_
        unfold piecesN
        rw [ht3s]
        omega
      have HPC:Hid (pc.size ≤ 140737488355328):=by have:=HTL.out; have:=HTS.out; show _ ≤ _; omega
      have HPL:Hid (∀ k',k=k' + 1 → piecesL k t'=pc :: piecesL k' t3):=fun k' e=>by
        rw [e]
        show (if t'.size=0 then [] else _)=_
        rw [if_neg h0,hpl,hpc,ht3]
      have HPC2:Hid (t'.extract 0 pl=pc):=hpc
      have HT32:Hid (t'.extract pl t'.size=t3):=ht3
      have HPS:Hid (pc.size=pl):=hps
      clear hpl hpc ht3 hps ht3s
      go_upto_region 4 with fail
      rw [HPC2.out]
      obtain ⟨Wa,hWa⟩:∃ Wa,wr.alloc (.cells #[.string pc] 9)=Wa:=⟨_,rfl⟩
      obtain ⟨q,hq⟩:∃ q,wr.heap.size=q:=⟨_,rfl⟩
      have hba:Below wr.heap.size wr Wa:=by rw [← hWa]; exact (Below.refl _ _).alloc (Nat.le_refl _) _
      have rq:Wa.heap[q]?=some (.cells #[.string pc] 9):=by rw [← hWa,← hq]; exact one_alloc _ _
      rw [hWa,hq]
      have HBA:Hid (Below wr.heap.size wr Wa):=hba
      have HRQ:Hid (Wa.heap[q]?=some (.cells #[.string pc] 9)):=rq
      have HQR:Hid (R ≤ q):=by have:=HRS.out; show _ ≤ _; omega
      have cq:=cell1 rq
      have hps:=HPS.out
      clear hWa hq hba rq
      go_upto_region 5 with fail
      rw [HT32.out]
      clear cq hps hz1 hz2 hz3 hm1 hm2 he0 hg0
      have HRW:Hid (Wa.ownsRow R 160 1 (.slice P N c) N (stpE.fl (L.map (·.1)))):=by
        have:=(HL.out.on HBA.out).row
        rw [← HNL.out] at this
        exact this
      have HLM:Hid ((L.map (·.1)).length=N):=by show _=_; rw [List.length_map,HNL.out]
      have HNB:Hid (N ≤ 16385):=by have:=HCNT.out; have:=HPT.out; show _ ≤ _; omega
      have HRA:Hid (R ≤ Wa.heap.size):=Nat.le_trans HRS.out HBA.out.size
      go_wp2_with ((at_builtin; go_loud (refine wpList_one stpOk #[.func (.func 142) #[] #[.pointer (some ⟨R,0,none⟩),.pointer (some ⟨R + 1,0,none⟩),.pointer (some ⟨q,0,none⟩)]] (142,#[],#[ptr (some R),ptr (some (R + 1)),ptr (some q)]) rfl rfl _ _ rfl R (.slice P N c) (List.map (fun s:Sp=>s.1) L) N HLM.out.symm rfl HRW.out rfl (by rw [HLM.out]; have:=HNB.out; unfold maxLen; omega) (by rw [HLM.out]; have:=HNB.out; show _ * 8 ≤ _; omega) HRA.out ?_); intro v4 w4 ho4 hg4; obtain ⟨P4,c4,hf4⟩:=own_form ho4; subst hf4))
      obtain ⟨Wb,hWb⟩:∃ Wb,Wa.alloc (.cells #[.func (.func 142) #[] #[.pointer (some ⟨R,0,none⟩),.pointer (some ⟨R + 1,0,none⟩),.pointer (some ⟨q,0,none⟩)]] 160)=Wb:=⟨_,rfl⟩
      have hbb:Below Wa.heap.size Wa Wb:=by rw [← hWb]; exact (Below.refl _ _).alloc (Nat.le_refl _) _
      have hg5:Wb.grownBy w4 (Value.slice P N c).ownBlock:=by rw [← hWb]; exact hg4
      have HBB:Hid (Below wr.heap.size wr Wb):=bel_to HBA.out hbb (Nat.le_refl _)
      have HLB:Hid (Lst (fun k=>k=S) R Wb g (.slice P N c) L):=HL.out.on HBB.out
      have HRB0:Hid (Wb.heap[R]?=some (.cells #[.pointer (some ⟨S,0,none⟩)] 75)):=keep_row HR0.out HBB.out
      have HRB1:Hid (Wb.heap[R + 1]?=some (.cells #[.string n] 9)):=keep_row HR1.out HBB.out
      have HRBq:Hid (Wb.heap[q]?=some (.cells #[.string pc] 9)):=keep_row HRQ.out hbb
      have HB4:Hid (Below w.heap.size w Wb):=bel_to HB.out HBB.out (Nat.le_refl _)
      have HG5:Hid (Wb.grownBy w4 (Value.slice P N c).ownBlock):=hg5
      have HSB:Hid (StepV Wb (KB (fun k=>k=S) R Wb) g ((142,#[],#[ptr (some R),ptr (some (R + 1)),ptr (some q)]),(fun G=>appendM G n pc),1)):=
        wr2_stp (HSV.out Wb HB4.out) (kb_new HRB0.out (Nat.le_refl _) (by decide)) HRB0.out (kb_new HRB1.out (by omega) (by decide)) HRB1.out (kb_new HRBq.out HQR.out (by decide)) HRBq.out HNS.out HPC.out
      have HL4:Hid (Lst (fun k=>k=S) R w4 g (.slice P4 (N + 1) c4) (L ++ [((142,#[],#[ptr (some R),ptr (some (R + 1)),ptr (some q)]),(fun G=>appendM G n pc),1)])):=
        HLB.out.grow HSB.out (fun e=>by have:=HPOS.out; rw [HNL.out,e] at this; simp at this) (by rw [← HNL.out]; exact ho4) hg5
      have HB5:Hid (Below w.heap.size w w4):=HB4.out.grown hg5 HB4.out.size (fun j hj=>by have:=(HRW.out.lt j hj).1; have:=HRR.out; omega)
      clear hWb hbb ho4 hg4 hg5
      go_wp2
      go_roundw
      case rel =>
        refine ⟨t3,k - 1,_,P4,c4,N + 1,rfl,rfl,by rw [List.length_append,HNL.out]; rfl,HL4.out,HB5.out,HLB.out.other HG5.out HRB0.out (by decide),HLB.out.other HG5.out HRB1.out (by decide),by have:=HSZ.out; omega,HSZ.out.1,?_,?_,?_,by omega⟩
        · have h1:=HPL.out (k - 1) (by have:=HSZ.out; omega)
          have h2:=HMS.out
          rw [h1] at h2
          rw [← h2]
          show msL (L ++ [_]) ++ _=_
          unfold msL
          rw [List.map_append,List.append_assoc]
          rfl
        · rw [tot_app,tot_one]; have:=HTOT.out; have:=HPN.out; show _ + 1 + _=_; omega
        · have:=HCNT.out; have:=HPN.out; omega
      case measure=>have:=HSZ.out.2.1; simp; omega
end Go.Proofs.YtbgbmfmgdgalbaaGreatDoor
