import Derived.Test.YtjnbjfjoejfmpaaGreatDoorWAO
import Derived.Test.YtjnbjfjoejfmpaaGreatDoorQRp
namespace Go.Proofs.YtjnbjfjoejfmpaaGreatDoor
open Go.RowKit
set_option linter.unusedVariables false
set_option linter.unusedSimpArgs false
def Nds (B:Nat):List Nd → QM.NL → Prop
  | [],[]=>True
  | v :: vs,x :: xs=>(v.1=packN x∧v.2.1=x.length∧(x ≠ [] → v.2.2=QM.lg B x))∧Nds B vs xs
  | _,_=>False
theorem Nds.filt {B:Nat}:∀ {vs:List Nd} {xs:QM.NL},Nds B vs xs → vs.filter okN=nds B (QM.nes xs)
  | [],[],_=>rfl
  | v :: vs,x :: xs,h=>by
    have ih:=Nds.filt h.2
    obtain ⟨h1,h2,h3⟩:=h.1
    rw [QM.nes_cons]
    by_cases hx:x=[]
    · subst hx
      have:okN v=false:=by unfold okN; rw [h2]; rfl
      rw [List.filter_cons_of_neg (by rw [this]; simp),ih]; rfl
    · have hl:x.length ≠ 0:=fun e=>hx (List.length_eq_zero_iff.1 e)
      have:okN v=true:=by unfold okN; rw [h2]; simpa using hx
      rw [List.filter_cons_of_pos this,ih,QM.ne_some hx]
      show v :: nds B (QM.nes xs)=ndOf B x :: nds B (QM.nes xs)
      congr 1
      obtain ⟨p,q,l⟩:=v
      simp only at h1 h2 h3
      rw [h1,h2,h3 hx]; rfl
  | [],_ :: _,h=>h.elim
  | _ :: _,[],h=>h.elim
theorem rep_nds (B:Nat) (N:QM.NL) (n m:Nat) (xs:QM.NL):rplN (nds B N) n (n + m) (nds B (QM.nes xs))=nds B (QM.rep N n m xs):=by
  unfold rplN QM.rep nds; rw [List.map_append,List.map_append,List.map_take,List.map_drop]
theorem cnt_Nds {B:Nat}:∀ {vs:List Nd} {xs:QM.NL},Nds B vs xs → cntN vs=xs.flatten.length∧vs.length=xs.length
  | [],[],_=>⟨rfl,rfl⟩
  | v :: vs,x :: xs,h=>by
    obtain ⟨i1,i2⟩:=cnt_Nds h.2
    refine ⟨?_,by rw [List.length_cons,List.length_cons,i2]⟩
    unfold cntN at i1 ⊢
    rw [List.map_cons,List.sum_cons,i1,List.flatten_cons,List.length_append,h.1.2.1]
  | [],_ :: _,h=>h.elim
  | _ :: _,[],h=>h.elim
section
variable {b0 g r c:Nat} {rest:List Value} {nv:Value} {E B:Nat} {N:QM.NL}
def Chg (w w':World) (b0 g r c:Nat) (rest:List Value) (nv:Value) (E B:Nat) (N':QM.NL):Prop:=∃ nv',LS w' b0 g r c rest nv' E B (nds B N')∧Fr w w' (fun k=>k=g ∨ k=r ∨ nv.ownBlock=some k)∧(∀ Y,nv'.ownBlock=some Y → nv.ownBlock=some Y ∨ w.heap.size ≤ Y)
theorem replN_any (n k many X:Nat) (vs:List Nd) (xs:QM.NL) (hv:Nds B vs xs) (w0 w:World) (hb:Below w0.heap.size w0 w) (h:LS w b0 g r c rest nv E B (nds B N)) (h0:LS w0 b0 g r c rest nv E B (nds B N)) (hn:n + many ≤ N.length) (hl:N.length ≤ 1000) (hcnt:N.flatten.length ≤ 1000000) (hcv:xs.flatten.length ≤ 1000000) (hv3:xs.length ≤ 3) (hv1:1 ≤ xs.length) (hX:NX w X vs.length vs) (hXn:w0.heap.size ≤ X) (hm:many=0 → 1 ≤ (QM.nes xs).length) :
    Calls Tryz.prog 26 #[ptr g,plV n k,.int .i64 (many:Int),.slice (some ⟨X,0,none⟩) vs.length vs.length] w fun e w'=>e=.returned (.tuple #[])∧Chg w0 w' b0 g r c rest nv E B (QM.rep N n many xs):=by
  obtain ⟨c1,c2⟩:=cnt_Nds hv
  have hlt:∀ Y,nv.ownBlock=some Y → Y < w0.heap.size:=fun Y hY=>by
    rcases h0.nd with ⟨e,_⟩ | ⟨E2,c2,e,_,hN⟩
    · rw [e] at hY; simp [Value.ownBlock] at hY
    · have:E2=Y:=by rw [e] at hY; simpa [Value.ownBlock] using hY
      subst this; exact hN.lt
  refine (replace_any n k many X vs w h (by simpa [nds] using hn) (by simpa [nds] using hl) (by rw [cnt_nds]; exact hcnt) (by rw [c1]; exact hcv) (by omega) (by omega) hX (fun e=>by rw [hv.filt]; simpa [nds] using hm e) (fun Y hY=>by have:=hlt Y hY; omega)).mono ?_
  rintro e w' ⟨rfl,nv',h1,h2,h3⟩
  rw [hv.filt,rep_nds] at h1
  refine ⟨rfl,nv',h1,⟨h2.os.trans hb.os,h2.tape.trans hb.tape,h2.output.trans hb.output,Nat.le_trans hb.size h2.size,fun k hk hk2=>?_⟩,fun Y hY=>?_⟩
  · refine (h2.block k (Nat.lt_of_lt_of_le hk hb.size) ?_).trans (hb.block k hk)
    rintro (h | h | h | h)
    · exact hk2 (Or.inl h)
    · exact hk2 (Or.inr (Or.inl h))
    · omega
    · exact hk2 (Or.inr (Or.inr h))
  · rcases h3 Y hY with h | h
    · exact Or.inl h
    · right; have:=hb.size; omega
theorem LS.own_lt {w:World} (h:LS w b0 g r c rest nv E B (nds B N)) (Y:Nat) (hY:nv.ownBlock=some Y):Y < w.heap.size:=by
  rcases h.nd with ⟨e,_⟩ | ⟨E2,c2,e,_,hN⟩
  · rw [e] at hY; simp [Value.ownBlock] at hY
  · have:E2=Y:=by rw [e] at hY; simpa [Value.ownBlock] using hY
    subst this; exact hN.lt
theorem Chg.cell {w1 a a5:World} {N':QM.NL} (hc:Chg a a5 b0 g r c rest nv E B N') (hL:LS w1 b0 g r c rest nv E B (nds B N)) {k o:Nat} {v:Value} (hk:w1.heap.size ≤ k) (h:a.cell? ⟨k,o,none⟩=some v):a5.cell? ⟨k,o,none⟩=some v:=by
  obtain ⟨nv',h1,h2,h3⟩:=hc
  have hkl:k < a.heap.size:=lt_of_cell h
  have e:=h2.block k hkl (by
    rintro (e | e | e)
    · have:=row_lt hL.hd; omega
    · have:=row_lt hL.rw_; omega
    · have:=hL.own_lt k e; omega)
  rw [← h]; exact World.cell?_of_block e
theorem Chg.back {w1 a a5:World} {N':QM.NL} (hc:Chg a a5 b0 g r c rest nv E B N') (hb:Below w1.heap.size w1 a):Chg w1 a5 b0 g r c rest nv E B N':=by
  obtain ⟨nv',h1,h2,h3⟩:=hc
  refine ⟨nv',h1,(Fr.of_below hb).trans h2,fun Y hY=>?_⟩
  rcases h3 Y hY with h | h
  · exact Or.inl h
  · right; have:=hb.size; omega
theorem Chg.bnd {a a5:World} {N':QM.NL} (hc:Chg a a5 b0 g r c rest nv E B N'):a5.cell? ⟨g,0,none⟩=some (.int .i64 (E:Int))∧a5.cell? ⟨g,1,none⟩=some (.int .i64 (B:Int)):=by
  obtain ⟨nv',h1,h2,h3⟩:=hc
  exact ⟨(lrow4 h1.hd).1,(lrow4 h1.hd).2.1⟩
theorem lg_take {B k:Nat} {X:List ByteArray} (h:X.take k ≠ []):QM.lg B (X.take k)=QM.lg B X:=by
  cases X with
  | nil=>simp at h
  | cons x X =>
    cases k with
    | zero=>simp at h
    | succ k=>rfl
theorem lg_drop {E B m:Nat} {N:QM.NL} (hI:QM.Inv E B N) {X:List ByteArray} (hx:X ∈ N) (h:X.drop m ≠ []):QM.lg B (X.drop m)=QM.lg B X:=by
  cases hl:QM.lg B X with
  | true =>
    obtain ⟨u,rfl,_⟩:=QM.lg_alone hI hx hl
    cases m with
    | zero=>simpa using hl
    | succ m=>simp at h
  | false =>
    have hs:=QM.lg_not hI hx hl
    cases hd:X.drop m with
    | nil=>rfl
    | cons u us =>
      have hu:u ∈ X:=List.mem_of_mem_drop (by rw [hd]; simp)
      have:=hs u hu
      unfold QM.lg; simp; omega
theorem nx_one (w:World) (a:Nd):NX (w.alloc (.cells #[.string a.1,.int .i64 (a.2.1:Int),.bool a.2.2] 57)) w.heap.size 1 [a]:=by
  refine ⟨⟨_,one_alloc w _,by simp,?_⟩,by simp,by unfold maxLen; omega⟩
  simp [flatN,ndC]
theorem nx_two (w:World) (a b:Nd):NX (w.alloc (.cells #[.string a.1,.int .i64 (a.2.1:Int),.bool a.2.2,.string b.1,.int .i64 (b.2.1:Int),.bool b.2.2] 57)) w.heap.size 2 [a,b]:=by
  refine ⟨⟨_,one_alloc w _,by simp,?_⟩,by simp,by unfold maxLen; omega⟩
  simp [flatN,ndC]
theorem nx_three (w:World) (a b d:Nd):NX (w.alloc (.cells #[.string a.1,.int .i64 (a.2.1:Int),.bool a.2.2,.string b.1,.int .i64 (b.2.1:Int),.bool b.2.2,.string d.1,.int .i64 (d.2.1:Int),.bool d.2.2] 57)) w.heap.size 3 [a,b,d]:=by
  refine ⟨⟨_,one_alloc w _,by simp,?_⟩,by simp,by unfold maxLen; omega⟩
  simp [flatN,ndC]
theorem repl3_any (t q k m:Nat) (X:List ByteArray) (ht:t < N.length) (hX:N[t]=X) (hk:k ≤ X.length) (hm:m ≤ X.length) (s:ByteArray) (hI:QM.Inv E B N) (hl:N.flatten.length ≤ 1000) (a W:World) (hLa:LS a b0 g r c rest nv E B (nds B N)) (hW:W=a.alloc (.cells #[.string (packN (X.take k)),.int .i64 (k:Int),.bool (QM.lg B X),.string (packN [s]),.int .i64 1,.bool (QM.big B s),.string (packN (X.drop m)),.int .i64 ((X.length - m:Nat):Int),.bool (QM.lg B X)] 57)) :
    Calls Tryz.prog 26 #[ptr g,plV t q,.int .i64 1,.slice (some ⟨a.heap.size,0,none⟩) 3 3] W fun e w'=>e=.returned (.tuple #[])∧Chg a w' b0 g r c rest nv E B (QM.rep N t 1 [X.take k,[s],X.drop m]):=by
  subst hW
  have hln:N.length ≤ 1000:=Nat.le_trans (QM.len_le hI.some) hl
  have hXm:X ∈ N:=by rw [← hX]; exact List.getElem_mem _
  have hXl:=hI.few X hXm
  have hXE:=hI.le
  have hba:Below a.heap.size a (a.alloc (.cells #[.string (packN (X.take k)),.int .i64 (k:Int),.bool (QM.lg B X),.string (packN [s]),.int .i64 1,.bool (QM.big B s),.string (packN (X.drop m)),.int .i64 ((X.length - m:Nat):Int),.bool (QM.lg B X)] 57)):=(Below.refl _ _).alloc (Nat.le_refl _) _
  have h3:=nx_three a (packN (X.take k),k,QM.lg B X) (packN [s],1,QM.big B s) (packN (X.drop m),X.length - m,QM.lg B X)
  exact replN_any t q 1 a.heap.size [(packN (X.take k),k,QM.lg B X),(packN [s],1,QM.big B s),(packN (X.drop m),X.length - m,QM.lg B X)] [X.take k,[s],X.drop m]
    ⟨⟨rfl,by simp; omega,fun h=>(lg_take h).symm⟩,⟨rfl,rfl,fun _=>rfl⟩,⟨rfl,by simp,fun h=>(lg_drop hI hXm h).symm⟩,trivial⟩ a _ hba (hLa.on hba) hLa (by omega) hln (by omega) (by simp; omega) (by simp) (by simp) h3 (Nat.le_refl _) (fun e=>by simp at e)
end
end Go.Proofs.YtjnbjfjoejfmpaaGreatDoor
