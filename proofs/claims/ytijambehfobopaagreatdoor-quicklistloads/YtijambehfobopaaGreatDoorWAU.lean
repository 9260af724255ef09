import Derived.Test.YtijambehfobopaaGreatDoorWAT
import Derived.Deep.DeepAppendWide
import Derived.Laws.AppendOwnNone
import Derived.Lib.ItoaMem
namespace Go.Proofs.YtijambehfobopaaGreatDoor
open Go.RowKit
set_option linter.unusedVariables false
set_option linter.unusedSimpArgs false
/-! the document's rows: nothing that it has laid is ever changed. -/
def DRow (ok:Nat → Prop) (w:World) (v:Value) (vs:List Value):Prop:=
  (v=.slice none 0 0∧vs=[]) ∨ ∃ g o c,v=.slice (some ⟨g,o,none⟩) vs.length c∧vs.length ≤ c∧ok g∧g < w.heap.size∧∀ j u,vs[j]?=some u → w.cell? ⟨g,o + j,none⟩=some u
section
variable {ok ok':Nat → Prop} {w w':World} {v:Value} {vs:List Value}
theorem DRow.on (h:DRow ok w v vs) (hb:Below w.heap.size w w'):DRow ok w' v vs:=by
  rcases h with h | ⟨g,o,c,h1,h2,h3,h4,h5⟩
  · exact Or.inl h
  · exact Or.inr ⟨g,o,c,h1,h2,h3,Nat.lt_of_lt_of_le h4 hb.size,fun j u hu=>cell_on (h5 j u hu) hb⟩
theorem DRow.fr {S:Nat → Prop} (h:DRow ok w v vs) (hf:Fr w w' S) (hk:∀ k,ok k → ¬ S k):DRow ok w' v vs:=by
  rcases h with h | ⟨g,o,c,h1,h2,h3,h4,h5⟩
  · exact Or.inl h
  · exact Or.inr ⟨g,o,c,h1,h2,h3,Nat.lt_of_lt_of_le h4 hf.size,fun j u hu=>(World.cell?_of_block (a:=⟨g,o + j,none⟩) (hf.block g h4 (hk g h3))).trans (h5 j u hu)⟩
theorem DRow.form (h:DRow ok w v vs):∃ P c,v=.slice P vs.length c:=by
  rcases h with ⟨rfl,rfl⟩ | ⟨g,o,c,h1,_⟩
  · exact ⟨_,_,rfl⟩
  · exact ⟨_,_,h1⟩
theorem DRow.at_ (h:DRow ok w v vs) {j:Nat} (hj:j < vs.length):∃ g o c,v=.slice (some ⟨g,o,none⟩) vs.length c∧w.cell? ⟨g,o + j,none⟩=some vs[j]:=by
  rcases h with ⟨rfl,rfl⟩ | ⟨g,o,c,h1,h2,h3,h4,h5⟩
  · simp at hj
  · exact ⟨g,o,c,h1,h5 j _ (List.getElem?_eq_getElem hj)⟩
theorem DRow.of_own {base T:Nat} {n:Nat} (h:w.ownsRow base T 1 v n vs) (hn:n=vs.length) (hk:∀ q,base ≤ q → ok q):DRow ok w v vs:=by
  subst hn
  rcases h.2 with ⟨rfl,h0⟩ | ⟨g,cap,cur,rfl,hb,hg,hcp,_⟩
  · exact Or.inl ⟨rfl,List.length_eq_zero_iff.1 h0⟩
  · refine Or.inr ⟨g,0,cap,rfl,hcp,hk g hb,row_lt hg,fun j u hu=>?_⟩
    have:=World.ownsRow.cells h (g:=g) rfl j u hu
    rw [Lib.add_plain] at this
    simpa using this
end
theorem size9 (W:World):(Go.sizeOf 9).run Tryz.prog W=.ok 1 W:=by
  have:(Tryz.prog.info? 9).map (fun i=>i.size)=some 1:=by kernel_rfl
  simp [Go.sizeOf]
  first | rfl | kernel_rfl
theorem infoR:(Tryz.prog.info? 22).map (fun i=>(i.zero,i.size,i.bytes))=some (some (.slice none 0 0),1,24):=by kernel_rfl
theorem app_str {ok:Nat → Prop} {w:World} {ops:Array Oper} {rest:List Oper} {o:Oper} {a:Act} {Q:Exit → Act → World → Prop} (hg:o.guard=none) (s x:Operand)
    (hop:o.op=Op.call { callee:=Callee.builtin Builtin.append,args:=#[s,x],argTypes:=#[22,22] })
    (base:Nat) (v:Value) (n:Nat) (xs:List Value) (hs:a.eval s=v) (hown:w.ownsRow base 9 1 v n xs) (xv:Value) (ys:List Value) (hx:a.eval x=xv) (hy:DRow ok w xv ys) (h1:∀ u ∈ ys,u.oneCell'=true)
    (m:Nat) (hm:m=n + ys.length) (hl:m ≤ 4000000000000) (hb:base ≤ w.heap.size)
    (h:∀ v' w',w'.ownsRow base 9 1 v' m (xs ++ ys) → w.grownBy w' v.ownBlock → wpList Tryz.prog ops Q rest (a.put o.dst v') w') :
    wpList Tryz.prog ops Q (o :: rest) a w:=by
  subst hm
  obtain ⟨i0,hi,hz0,hz1,hz2⟩:=info_parts info9
  rcases hy with ⟨rfl,rfl⟩ | ⟨g,of,c,rfl,h2,h3,h4,h5⟩
  · refine wpList_append_own_none hg s x 22 hop base 9 i0 1 Tryz.underlying22 hi v n xs hs hown hx ?_
    exact h v w (by simpa using hown) (World.grownBy.refl w _)
  · refine wpList_append_own_wide _ hg s x 22 hop base 9 i0 (.string ⟨#[]⟩) 1 16 Tryz.underlying22 hi hz0 hz1 hz2 rfl (by decide) v n xs hs hown ⟨g,of,none⟩ ys.length c ys hx (by simp) (fun j u hu=>by rw [Lib.add_plain]; exact h5 j u hu) h1 (by unfold maxLen; omega) (by omega) hb ?_
    intro v' w' h1 h2 h3; exact h v' w' h1 h2
theorem app_row {ok:Nat → Prop} {w:World} {ops:Array Oper} {rest:List Oper} {o:Oper} {a:Act} {Q:Exit → Act → World → Prop} (hg:o.guard=none) (s x:Operand)
    (hop:o.op=Op.call { callee:=Callee.builtin Builtin.append,args:=#[s,x],argTypes:=#[27,27] })
    (base:Nat) (v:Value) (n:Nat) (xs:List Value) (hs:a.eval s=v) (hown:w.ownsRow base 22 1 v n xs) (xv:Value) (ys:List Value) (hx:a.eval x=xv) (hy:DRow ok w xv ys) (h1:∀ u ∈ ys,u.oneCell'=true)
    (m:Nat) (hm:m=n + ys.length) (hl:m ≤ 4000000000000) (hb:base ≤ w.heap.size)
    (h:∀ v' w',w'.ownsRow base 22 1 v' m (xs ++ ys) → w.grownBy w' v.ownBlock → wpList Tryz.prog ops Q rest (a.put o.dst v') w') :
    wpList Tryz.prog ops Q (o :: rest) a w:=by
  subst hm
  obtain ⟨i0,hi,hz0,hz1,hz2⟩:=info_parts infoR
  rcases hy with ⟨rfl,rfl⟩ | ⟨g,of,c,rfl,h2,h3,h4,h5⟩
  · refine wpList_append_own_none hg s x 27 hop base 22 i0 1 Tryz.underlying27 hi v n xs hs hown hx ?_
    exact h v w (by simpa using hown) (World.grownBy.refl w _)
  · refine wpList_append_own_wide _ hg s x 27 hop base 22 i0 (.slice none 0 0) 1 24 Tryz.underlying27 hi hz0 hz1 hz2 rfl (by decide) v n xs hs hown ⟨g,of,none⟩ ys.length c ys hx (by simp) (fun j u hu=>by rw [Lib.add_plain]; exact h5 j u hu) h1 (by unfold maxLen; omega) (by omega) hb ?_
    intro v' w' h1 h2 h3; exact h v' w' h1 h2
abbrev strV (x:List ByteArray):List Value:=x.map Value.string
theorem one_str (x:List ByteArray):∀ u ∈ strV x,u.oneCell'=true:=by intro u hu; obtain ⟨y,_,rfl⟩:=List.mem_map.1 hu; rfl
def Rows (ok:Nat → Prop) (w:World):List Value → QM.NL → Prop
  | [],[]=>True
  | u :: us,x :: N=>DRow ok w u (strV x)∧Rows ok w us N
  | _,_=>False
section
variable {ok ok':Nat → Prop} {w w':World}
theorem Rows.len:∀ {us:List Value} {N:QM.NL},Rows ok w us N → us.length=N.length
  | [],[],_=>rfl
  | u :: us,x :: N,h=>by rw [List.length_cons,List.length_cons,h.2.len]
  | [],_ :: _,h=>h.elim
  | _ :: _,[],h=>h.elim
theorem Rows.imp {ok2:Nat → Prop} {w2:World} (f:∀ v vs,DRow ok w v vs → DRow ok2 w2 v vs):∀ {us:List Value} {N:QM.NL},Rows ok w us N → Rows ok2 w2 us N
  | [],[],_=>trivial
  | u :: us,x :: N,h=>⟨f _ _ h.1,h.2.imp f⟩
  | [],_ :: _,h=>h.elim
  | _ :: _,[],h=>h.elim
theorem Rows.on {us:List Value} {N:QM.NL} (h:Rows ok w us N) (hb:Below w.heap.size w w'):Rows ok w' us N:=h.imp (fun _ _ q=>q.on hb)
theorem Rows.at_:∀ {us:List Value} {N:QM.NL},Rows ok w us N → ∀ (j:Nat) (h1:j < us.length) (h2:j < N.length),DRow ok w us[j] (strV N[j])
  | [],[],_,j,h1,_=>by simp at h1
  | u :: us,x :: N,h,0,_,_=>h.1
  | u :: us,x :: N,h,j + 1,h1,h2=>h.2.at_ j (by simpa using h1) (by simpa using h2)
  | [],_ :: _,h,_,_,_=>h.elim
  | _ :: _,[],h,_,_,_=>h.elim
abbrev rlV (E B:Nat) (v:Value):Value:=.agg #[.int .i64 (E:Int),.int .i64 (B:Int),v]
def RL (ok:Nat → Prop) (w:World) (v:Value) (N:QM.NL):Prop:=∃ us,DRow ok w v us∧Rows ok w us N
theorem RL.on {v:Value} {N:QM.NL} (h:RL ok w v N) (hb:Below w.heap.size w w'):RL ok w' v N:=by
  obtain ⟨us,h1,h2⟩:=h; exact ⟨us,h1.on hb,h2.on hb⟩
theorem RL.fr {S:Nat → Prop} {v:Value} {N:QM.NL} (h:RL ok w v N) (hf:Fr w w' S) (hk:∀ k,ok k → ¬ S k):RL ok w' v N:=by
  obtain ⟨us,h1,h2⟩:=h; exact ⟨us,h1.fr hf hk,h2.imp (fun _ _ q=>q.fr hf hk)⟩
theorem RL.form {v:Value} {N:QM.NL} (h:RL ok w v N):∃ P c,v=.slice P N.length c:=by
  obtain ⟨us,h1,h2⟩:=h
  obtain ⟨P,c,e⟩:=h1.form
  exact ⟨P,c,by rw [e,h2.len]⟩
theorem RL.at_ {v:Value} {N:QM.NL} (h:RL ok w v N) {j:Nat} (hj:j < N.length):∃ g o c u,v=.slice (some ⟨g,o,none⟩) N.length c∧w.cell? ⟨g,o + j,none⟩=some u∧DRow ok w u (strV N[j]):=by
  obtain ⟨us,h1,h2⟩:=h
  have hl:=h2.len
  obtain ⟨g,o,c,e,hc⟩:=h1.at_ (j:=j) (by omega)
  exact ⟨g,o,c,us[j],by rw [e,hl],hc,h2.at_ j (by omega) hj⟩
end
end Go.Proofs.YtijambehfobopaaGreatDoor
namespace Go.Proofs.YtijambehfobopaaGreatDoor
open Go.RowKit
set_option linter.unusedVariables false
set_option linter.unusedSimpArgs false
theorem und22:Tryz.prog.underlying 22=some (.slice 9):=by kernel_rfl
theorem drow_one (w1:World) (u:Value) (T:Nat):DRow (fun _=>True) (w1.alloc (.cells #[u] T)) (.slice (some ⟨w1.heap.size,0,none⟩) 1 1) [u]:=by
  have hx2:=one_alloc w1 (.cells #[u] T)
  refine Or.inr ⟨w1.heap.size,0,1,rfl,Nat.le_refl _,trivial,row_lt hx2,fun j u' hu=>?_⟩
  rw [Nat.zero_add,cell_of_row _ _ _ _ _ _ hx2]; simpa using hu
theorem own_nil (w:World) (b T:Nat):w.ownsRow b T 1 (.slice none 0 0) 0 []:=⟨rfl,Or.inl ⟨rfl,rfl⟩⟩
theorem own_lower {w:World} {b b' e size n:Nat} {v:Value} {xs:List Value} (h:w.ownsRow b' e size v n xs) (hb:b ≤ b'):w.ownsRow b e size v n xs:=by
  refine ⟨h.1,?_⟩
  rcases h.2 with q | ⟨a1,a2,a3,a4,a5,a6⟩
  · exact Or.inl q
  · exact Or.inr ⟨a1,a2,a3,a4,by omega,a6⟩
set_option maxHeartbeats 1000000 in
theorem takeN_snoc {α:Type} (N:List α) (i:Nat) (h:i < N.length):N.take (i + 1)=N.take i ++ [N[i]]:=by
  rw [List.take_add_one,List.getElem?_eq_getElem h]; rfl
section
variable {ok:Nat → Prop}
theorem DRow.sform {w:World} {v:Value} {x:List ByteArray} (h:DRow ok w v (strV x)):∃ P c,v=.slice P x.length c:=by
  obtain ⟨P,c,e⟩:=h.form
  exact ⟨P,c,by rw [e]; simp⟩
set_option maxHeartbeats 2000000 in
set_option maxRecDepth 100000 in
theorem elems_any (E B:Nat) (v:Value) (N:QM.NL) (hl:N.flatten.length ≤ 1000000) (hn:N.length ≤ 1000000) (w:World) (h:RL ok w v N) :
    Calls Tryz.prog 25 #[rlV E B v] w fun e w'=>∃ v',e=.returned v'∧w'.ownsRow w.heap.size 9 1 v' N.flatten.length (strV N.flatten)∧Below w.heap.size w w':=by
  obtain ⟨P,c,rfl⟩:=h.form
  have HL:Hid (RL ok w (.slice P N.length c) N):=h
  obtain ⟨W0,hW0⟩:∃ W0,W0=w.alloc (.cells #[.int .i64 (E:Int),.int .i64 (B:Int),.slice P N.length c] 29):=⟨_,rfl⟩
  have hb0:Below w.heap.size w W0:=by rw [hW0]; exact (Below.refl _ _).alloc (Nat.le_refl _) _
  have hrow:W0.heap[w.heap.size]?=some (.cells #[.int .i64 (E:Int),.int .i64 (B:Int),.slice P N.length c] 29):=by rw [hW0]; exact one_alloc _ _
  have HB0:Hid _:=hb0
  have HR0:Hid _:=hrow
  have HSZ:Hid (w.heap.size ≤ W0.heap.size):=HB0.out.size
  obtain ⟨FL,hFL⟩:∃ FL:Nat → List ByteArray,∀ i,FL i=(N.take i).flatten:=⟨_,fun _=>rfl⟩
  obtain ⟨FN,hFN⟩:∃ FN:Nat → Nat,∀ i,FN i=(FL i).length:=⟨_,fun _=>rfl⟩
  have HFL0:Hid (FL 0=[]):=by show _=_; rw [hFL]; rfl
  have HFN0:Hid (FN 0=0):=by show _=_; rw [hFN,HFL0.out]; rfl
  have HFS:Hid (∀ i (hi:i < N.length),FL (i + 1)=FL i ++ N[i]∧FN (i + 1)=FN i + N[i].length∧FN (i + 1) ≤ 1000000):=fun i hi=>by
    have e1:FL (i + 1)=FL i ++ N[i]:=by rw [hFL,hFL,takeN_snoc N i hi,List.flatten_append]; simp
    refine ⟨e1,by rw [hFN,hFN,e1,List.length_append],?_⟩
    rw [hFN,hFL]
    have:=congrArg (fun M=>(List.flatten M).length) (List.take_append_drop (i + 1) N)
    simp only [List.flatten_append,List.length_append] at this
    omega
  have HFE:Hid (FL N.length=N.flatten∧FN N.length=N.flatten.length):=by
    show _∧_
    rw [hFN,hFL,List.take_length]; exact ⟨rfl,rfl⟩
  clear h hb0 hrow hFL hFN hl
  go_enter Tryz.func25,Tryz.ntmps25
  go_wp2
  rw [← hW0]
  clear hW0
  go_loopw [3,4] (fun co ci wr=>∃ i:Nat,i ≤ N.length∧ci=.int .i64 (i:Int)∧Below W0.heap.size W0 wr∧wr.ownsRow W0.heap.size 9 1 co (FN i) (strV (FL i))) (fun _ ci _=>N.length - (intOf ci).toNat)
  case atStart=>exact ⟨0,by omega,rfl,Below.refl _ _,by rw [HFL0.out,HFN0.out]; exact own_nil W0 W0.heap.size 9⟩
  case round =>
    obtain ⟨i,hi,rfl,hb,ho⟩:=hrel
    have HB:Hid (Below W0.heap.size W0 wr):=hb
    have HO:Hid _:=ho
    have hrr:=keep_row HR0.out hb
    obtain ⟨c0,c1,c2,cf⟩:=row3 hrr
    obtain ⟨Q8,d8,hqf⟩:=own_form ho
    subst hqf
    by_cases hlt:i < N.length
    · obtain ⟨g,o,c',u,e,hcell,hdr⟩:=HL.out.at_ hlt
      injection e with e1 e2 e3
      subst e1 e3
      obtain ⟨U,uc,hu⟩:=hdr.sform
      subst hu
      have hbw:Below w.heap.size w wr:=HB0.out.trans (hb.mono HSZ.out)
      have y0:=cell_on hcell hbw
      have HDR:Hid (DRow ok wr (.slice U N[i].length uc) (strV N[i])):=hdr.on hbw
      have hi0:(0:Int) ≤ (i:Int):=by omega
      have hi1:(i:Int) < (N.length:Int):=by omega
      obtain ⟨f1,f2,f3⟩:=HFS.out i hlt
      have HF1:Hid _:=f1
      have HF2:Hid _:=f2
      have HN1:Hid _:=one_str N[i]
      clear ho hb hdr hcell hrr f1 f2
      go_wp2_with (at_builtin; go_must (refine app_str rfl _ _ rfl W0.heap.size _ _ _ rfl HO.out _ (strV N[i]) rfl HDR.out HN1.out (FN (i + 1)) ?p0 ?p1 HB.out.size ?_))
      case p0=>(rw [HF2.out]; try simp)
      case p1=>omega
      intro v1 w1 ho1 hg1
      have HB1:Hid (Below W0.heap.size W0 w1):=HB.out.grown hg1 HB.out.size (fun q hq=>(World.ownsRow.lt HO.out q hq).1)
      have HO1:Hid (w1.ownsRow W0.heap.size 9 1 v1 (FN (i + 1)) (strV (FL i) ++ strV N[i])):=ho1
      clear ho1 hg1
      go_wp2
      exact ⟨⟨i + 1,hlt,by congr 1,HB1.out,by rw [show strV (FL (i + 1))=strV (FL i) ++ strV N[i] by rw [HF1.out]; simp]; exact HO1.out⟩,by simp [intOf]; omega⟩
    · have he:i=N.length:=by omega
      subst he
      have HO2:Hid (wr.ownsRow W0.heap.size 9 1 _ (FN N.length) (strV (FL N.length))):=ho
      clear ho hb hrr
      go_wp2
      go_returns
      refine ⟨_,rfl,?_,HB0.out.trans (HB.out.mono HSZ.out)⟩
      rw [← HFE.out.2,← HFE.out.1]
      exact own_lower HO2.out HSZ.out
end
end Go.Proofs.YtijambehfobopaaGreatDoor
