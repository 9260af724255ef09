import Derived.Test.YtijambehfobopaaGreatDoorWAS
import Derived.Test.YtijambehfobopaaGreatDoorQRp
import Derived.Test.YtijambehfobopaaGreatDoorWAQ
namespace Go.Proofs.YtijambehfobopaaGreatDoor
open Go.RowKit
set_option linter.unusedVariables false
set_option linter.unusedSimpArgs false
def Nds (B:Nat):List Nd → QM.NL → Prop
  | [],[]=>True
  | v :: vs,x :: xs=>(v.1=packN x∧v.2.1=x.length∧(x ≠ [] → v.2.2=QM.lg B x))∧Nds B vs xs
  | _,_=>False
theorem Nds.filt {B:Nat}:∀ {vs:List Nd} {xs:QM.NL},Nds B vs xs → vs.filter okN=nds B (QM.nes xs)
  | [],[],_=>rfl
  | v :: vs,x :: xs,h=>by
    have ih:=Nds.filt h.2
    obtain ⟨h1,h2,h3⟩:=h.1
    rw [QM.nes_cons]
    by_cases hx:x=[]
    · subst hx
      have:okN v=false:=by unfold okN; rw [h2]; rfl
      rw [List.filter_cons_of_neg (by rw [this]; simp),ih]; rfl
    · have hl:x.length ≠ 0:=fun e=>hx (List.length_eq_zero_iff.1 e)
      have:okN v=true:=by unfold okN; rw [h2]; simpa using hx
      rw [List.filter_cons_of_pos this,ih,QM.ne_some hx]
      show v :: nds B (QM.nes xs)=ndOf B x :: nds B (QM.nes xs)
      congr 1
      obtain ⟨p,q,l⟩:=v
      simp only at h1 h2 h3
      rw [h1,h2,h3 hx]; rfl
  | [],_ :: _,h=>h.elim
  | _ :: _,[],h=>h.elim
theorem rep_nds (B:Nat) (N:QM.NL) (n m:Nat) (xs:QM.NL):rplN (nds B N) n (n + m) (nds B (QM.nes xs))=nds B (QM.rep N n m xs):=by
  unfold rplN QM.rep nds; rw [List.map_append,List.map_append,List.map_take,List.map_drop]
theorem cnt_Nds {B:Nat}:∀ {vs:List Nd} {xs:QM.NL},Nds B vs xs → cntN vs=xs.flatten.length∧vs.length=xs.length
  | [],[],_=>⟨rfl,rfl⟩
  | v :: vs,x :: xs,h=>by
    obtain ⟨i1,i2⟩:=cnt_Nds h.2
    refine ⟨?_,by rw [List.length_cons,List.length_cons,i2]⟩
    unfold cntN at i1 ⊢
    rw [List.map_cons,List.sum_cons,i1,List.flatten_cons,List.length_append,h.1.2.1]
  | [],_ :: _,h=>h.elim
  | _ :: _,[],h=>h.elim
section
variable {b0 g r c:Nat} {rest:List Value} {nv:Value} {E B:Nat} {N:QM.NL}
def Chg (w w':World) (b0 g r c:Nat) (rest:List Value) (nv:Value) (E B:Nat) (N':QM.NL):Prop:=∃ nv',LS w' b0 g r c rest nv' E B (nds B N')∧Fr w w' (fun k=>k=g ∨ k=r ∨ nv.ownBlock=some k)∧(∀ Y,nv'.ownBlock=some Y → nv.ownBlock=some Y ∨ w.heap.size ≤ Y)
theorem replN_any (n k many X:Nat) (vs:List Nd) (xs:QM.NL) (hv:Nds B vs xs) (w0 w:World) (hb:Below w0.heap.size w0 w) (h:LS w b0 g r c rest nv E B (nds B N)) (h0:LS w0 b0 g r c rest nv E B (nds B N)) (hn:n + many ≤ N.length) (hl:N.length ≤ 1000) (hcnt:N.flatten.length ≤ 1000000) (hcv:xs.flatten.length ≤ 1000000) (hv3:xs.length ≤ 3) (hv1:1 ≤ xs.length) (hX:NX w X vs.length vs) (hXn:w0.heap.size ≤ X) (hm:many=0 → 1 ≤ (QM.nes xs).length) :
    Calls Tryz.prog 21 #[ptr g,plV n k,.int .i64 (many:Int),.slice (some ⟨X,0,none⟩) vs.length vs.length] w fun e w'=>e=.returned (.tuple #[])∧Chg w0 w' b0 g r c rest nv E B (QM.rep N n many xs):=by
  obtain ⟨c1,c2⟩:=cnt_Nds hv
  have hlt:∀ Y,nv.ownBlock=some Y → Y < w0.heap.size:=fun Y hY=>by
    rcases h0.nd with ⟨e,_⟩ | ⟨E2,c2,e,_,hN⟩
    · rw [e] at hY; simp [Value.ownBlock] at hY
    · have:E2=Y:=by rw [e] at hY; simpa [Value.ownBlock] using hY
      subst this; exact hN.lt
  refine (replace_any n k many X vs w h (by simpa [nds] using hn) (by simpa [nds] using hl) (by rw [cnt_nds]; exact hcnt) (by rw [c1]; exact hcv) (by omega) (by omega) hX (fun e=>by rw [hv.filt]; simpa [nds] using hm e) (fun Y hY=>by have:=hlt Y hY; omega)).mono ?_
  rintro e w' ⟨rfl,nv',h1,h2,h3⟩
  rw [hv.filt,rep_nds] at h1
  refine ⟨rfl,nv',h1,⟨h2.os.trans hb.os,h2.tape.trans hb.tape,h2.output.trans hb.output,Nat.le_trans hb.size h2.size,fun k hk hk2=>?_⟩,fun Y hY=>?_⟩
  · refine (h2.block k (Nat.lt_of_lt_of_le hk hb.size) ?_).trans (hb.block k hk)
    rintro (h | h | h | h)
    · exact hk2 (Or.inl h)
    · exact hk2 (Or.inr (Or.inl h))
    · omega
    · exact hk2 (Or.inr (Or.inr h))
  · rcases h3 Y hY with h | h
    · exact Or.inl h
    · right; have:=hb.size; omega
theorem LS.own_lt {w:World} (h:LS w b0 g r c rest nv E B (nds B N)) (Y:Nat) (hY:nv.ownBlock=some Y):Y < w.heap.size:=by
  rcases h.nd with ⟨e,_⟩ | ⟨E2,c2,e,_,hN⟩
  · rw [e] at hY; simp [Value.ownBlock] at hY
  · have:E2=Y:=by rw [e] at hY; simpa [Value.ownBlock] using hY
    subst this; exact hN.lt
theorem Chg.cell {w1 a a5:World} {N':QM.NL} (hc:Chg a a5 b0 g r c rest nv E B N') (hL:LS w1 b0 g r c rest nv E B (nds B N)) {k o:Nat} {v:Value} (hk:w1.heap.size ≤ k) (h:a.cell? ⟨k,o,none⟩=some v):a5.cell? ⟨k,o,none⟩=some v:=by
  obtain ⟨nv',h1,h2,h3⟩:=hc
  have hkl:k < a.heap.size:=lt_of_cell h
  have e:=h2.block k hkl (by
    rintro (e | e | e)
    · have:=row_lt hL.hd; omega
    · have:=row_lt hL.rw_; omega
    · have:=hL.own_lt k e; omega)
  rw [← h]; exact World.cell?_of_block e
theorem Chg.back {w1 a a5:World} {N':QM.NL} (hc:Chg a a5 b0 g r c rest nv E B N') (hb:Below w1.heap.size w1 a):Chg w1 a5 b0 g r c rest nv E B N':=by
  obtain ⟨nv',h1,h2,h3⟩:=hc
  refine ⟨nv',h1,(Fr.of_below hb).trans h2,fun Y hY=>?_⟩
  rcases h3 Y hY with h | h
  · exact Or.inl h
  · right; have:=hb.size; omega
theorem Chg.bnd {a a5:World} {N':QM.NL} (hc:Chg a a5 b0 g r c rest nv E B N'):a5.cell? ⟨g,0,none⟩=some (.int .i64 (E:Int))∧a5.cell? ⟨g,1,none⟩=some (.int .i64 (B:Int)):=by
  obtain ⟨nv',h1,h2,h3⟩:=hc
  exact ⟨(lrow4 h1.hd).1,(lrow4 h1.hd).2.1⟩
theorem nx_one (w:World) (a:Nd):NX (w.alloc (.cells #[.string a.1,.int .i64 (a.2.1:Int),.bool a.2.2] 55)) w.heap.size 1 [a]:=by
  refine ⟨⟨_,one_alloc w _,by simp,?_⟩,by simp,by unfold maxLen; omega⟩
  simp [flatN,ndC]
end
end Go.Proofs.YtijambehfobopaaGreatDoor
namespace Go.Proofs.YtijambehfobopaaGreatDoor
open Go.RowKit
set_option linter.unusedVariables false
set_option linter.unusedSimpArgs false
theorem own_on {W W':World} {base T k n:Nat} {v:Value} {xs:List Value} (h:W.ownsRow base T k v n xs) (hb:Below W.heap.size W W'):W'.ownsRow base T k v n xs:=by
  obtain ⟨q1,q | ⟨gg,cap,cur,q2,q3,q4,q5⟩⟩:=h
  · exact ⟨q1,Or.inl q⟩
  · exact ⟨q1,Or.inr ⟨gg,cap,cur,q2,q3,keep_row q4 hb,q5⟩⟩
theorem own_block {W:World} {base T k n:Nat} {v:Value} {xs:List Value} (h:W.ownsRow base T k v n xs):∀ b,v.ownBlock=some b → base ≤ b:=fun b hb=>by
  obtain ⟨q1,⟨q,_⟩ | ⟨gg,cap,cur,q2,q3,q4,q5⟩⟩:=h
  · rw [q] at hb; simp [Value.ownBlock] at hb
  · rw [q2] at hb; simp [Value.ownBlock] at hb; omega
section
variable {b0 g r c:Nat} {rest:List Value} {nv:Value} {E B:Nat} {ns:List Nd}
set_option maxHeartbeats 4000000 in
set_option maxRecDepth 100000 in
theorem Nodes_any (hl:ns.length ≤ 1000) (hsz:∀ n ∈ ns,n.1.size ≤ 281474976710656) (w:World) (h:LS w b0 g r c rest nv E B ns):Calls Tryz.prog 9 #[ptr g] w fun e w'=>∃ v,e=.returned v∧w'.ownsRow w.heap.size 9 1 v ns.length (ns.map (fun n=>Value.string n.1))∧Below w.heap.size w w':=by
  have HL:Hid _:=h
  obtain ⟨l0,l1,l2,l3,lf⟩:=lrow4 h.hd
  obtain ⟨r0,r1,rf⟩:=lrow2 h.rw_
  obtain ⟨P,cc,hnv,hcc⟩:=h.nd.form
  clear h
  rw [hnv] at r0
  have HN:Hid (∀ t (ht:t < ns.length),∃ Y,P=some ⟨Y,0,none⟩∧w.cell? ⟨Y,t * 3,none⟩=some (.string ns[t].1)∧w.cell? ⟨Y,t * 3 + 1,none⟩=some (.int .i64 (ns[t].2.1:Int))∧w.cell? ⟨Y,t * 3 + 2,none⟩=some (.bool ns[t].2.2)):=fun t ht=>by
    rcases HL.out.nd with ⟨_,rfl⟩ | ⟨Y,c2,e,_,hN⟩
    · simp at ht
    · rw [hnv] at e
      injection e with e1 _ _
      exact ⟨Y,e1,hN.cells t ht⟩
  obtain ⟨i0,hi,hz0,hz1,hz2⟩:=info_parts info9
  have HCL:Hid _:=clone_any
  have HSZ:Hid _:=hsz
  clear hnv hsz
  go_enter Tryz.func9,Tryz.ntmps9
  go_wp2
  go_loopw [3,5,7,13] (fun cp _ _ ci wr=>∃ i:Nat,i ≤ 1∧ci=.int .i64 (i:Int)∧Below w.heap.size w wr∧wr.ownsRow w.heap.size 9 1 cp (if i=0 then 0 else ns.length) ((ns.take (if i=0 then 0 else ns.length)).map (fun n=>Value.string n.1))) (fun _ _ _ ci _=>1 - (intOf ci).toNat)
  case atStart=>exact ⟨0,by omega,rfl,Below.refl _ _,⟨rfl,Or.inl ⟨rfl,rfl⟩⟩⟩
  case round =>
    obtain ⟨i,hi1,rfl,hb,ho⟩:=hrel
    have HB:Hid (Below w.heap.size w wr):=hb
    by_cases hlt:i=0
    · subst hlt
      simp only [if_true] at ho
      have HO:Hid _:=ho
      have y0:=cell_on r0 hb
      have y1:=cell_on r1 hb
      clear ho hb
      go_wp2
      go_loopw [3,7,20] (fun cp _ cj wx=>∃ j:Nat,j ≤ ns.length∧cj=.int .i64 (j:Int)∧Below w.heap.size w wx∧wx.ownsRow w.heap.size 9 1 cp j ((ns.take j).map (fun n=>Value.string n.1))) (fun _ _ cj _=>ns.length - (intOf cj).toNat)
      case atStart=>exact ⟨0,by omega,rfl,HB.out.alloc HB.out.size _,by
        have:=HO.out
        obtain ⟨q1,⟨q2,_⟩ | ⟨gg,cap,cur,q2,q3,q4,q5,q6,q7,q8⟩⟩:=this
        · exact ⟨by simp,Or.inl ⟨q2,rfl⟩⟩
        · exact ⟨by simp,Or.inr ⟨gg,cap,cur,q2,q3,keep_row q4 ((Below.refl _ _).alloc (Nat.le_refl _) _),q5,q6,q7,by simp⟩⟩⟩
      case round =>
        clear HO y0 y1 HB
        obtain ⟨j,hj,rfl,hb,ho⟩:=hrel
        have HBX:Hid (Below w.heap.size w _):=hb
        have HOX:Hid _:=ho
        by_cases hlt:j < ns.length
        · obtain ⟨Y,hP,x0,x1,x2⟩:=HN.out j hlt
          subst hP
          have y0:=cell_on x0 hb
          have y1:=cell_on x1 hb
          have y2:=cell_on x2 hb
          have hj0:(0:Int) ≤ (j:Int):=by omega
          have hj1:(j:Int) < (ns.length:Int):=by omega
          have hss:=HSZ.out ns[j] (List.getElem_mem hlt)
          have HTS:Hid ((ns.take (j + 1)).map (fun n=>Value.string n.1)=(ns.take j).map (fun n=>Value.string n.1) ++ [.string ns[j].1]):=by show _=_; rw [take_snoc ns j hlt,List.map_append]; rfl
          generalize ns[j].1=PK at *
          generalize ns[j].2.1=CN at *
          generalize ns[j].2.2=LG at *
          clear hb ho x0 x1 x2
          go_wp2_with fail
          refine (show Calls _ _ _ _ _ from HCL.out PK hss _).mono ?_
          rintro e w2 ⟨rfl,hb2⟩
          have hbw:=bel_to ((Below.refl _ wr).alloc (Nat.le_refl _) _) hb2 (Nat.le_refl _)
          have HB2:Hid (Below w.heap.size w w2):=bel_to HBX.out hbw (Nat.le_refl _)
          have HO3:Hid ((w2.alloc (.cells #[.string PK] 9)).ownsRow w.heap.size 9 1 _ j _):=own_on (own_on HOX.out hbw) ((Below.refl _ _).alloc (Nat.le_refl _) _)
          have HNC:Hid (∀ a u,[Value.string PK][a]?=some u → (w2.alloc (.cells #[.string PK] 9)).cell? ((⟨w2.heap.size,0,none⟩:Addr).add a)=some u):=fun a u ha=>by
            match a,ha with
            | 0,ha=>simp at ha; subst ha; rw [Addr.add_lit]; exact (row1 (one_alloc w2 (.cells #[.string PK] 9))).1
          clear hb2 hbw y0 y1 y2
          go_wp2_with (at_builtin; go_must (refine wpList_append_own _ rfl _ _ 22 rfl w.heap.size 9 i0 (.string ⟨#[]⟩) 1 16 Tryz.underlying22 hi hz0 hz1 hz2 rfl (by decide) _ _ _ rfl HO3.out ⟨w2.heap.size,0,none⟩ 1 1 [.string PK] rfl rfl HNC.out ?t1 ?t2 ?t3 ?t4 ?_))
          case t1=>intro u hu; simp at hu; subst hu; rfl
          case t2=>unfold maxLen; omega
          case t3=>omega
          case t4=>have:=HB2.out.size; simp; omega
          intro v' w4 hown hgr hiff
          have HB4:Hid (Below w.heap.size w w4):=(HB2.out.alloc HB2.out.size _).grown hgr (by have:=HB2.out.size; simp; omega) (fun b hb=>own_block HO3.out b hb)
          have HO4:Hid _:=hown
          clear hown hgr hiff
          go_wp2
          exact ⟨⟨j + 1,hlt,by congr 1,HB4.out,by rw [HTS.out,List.map_take]; exact HO4.out⟩,by simp [intOf]; omega⟩
        · have he:j=ns.length:=by omega
          subst he
          clear hb ho
          go_wp2
          exact ⟨⟨1,by omega,rfl,HBX.out,by rw [if_neg (by omega)]; exact HOX.out⟩,by simp [intOf]⟩
    · have he:i=1:=by omega
      subst he
      simp only [show ¬ (1=0) by omega,if_false,List.take_length] at ho
      have HO:Hid _:=ho
      clear ho hb
      go_wp2
      go_returns
      exact ⟨_,rfl,HO.out,HB.out⟩
end
end Go.Proofs.YtijambehfobopaaGreatDoor
namespace Go.Proofs.YtijambehfobopaaGreatDoor
open Go.RowKit
set_option linter.unusedVariables false
set_option linter.unusedSimpArgs false
section
variable {b0 g rb rc E B:Nat} {S:List RwD} {lv:Value} {ns:List Nd}
def rowsN (S:List RwD) (ns:List Nd):List (List Nd):=S.map (fun r=>r.ns) ++ [ns]
theorem LM.rowAt {W:World} (h:LM W b0 g rb rc S lv E B ns) (i:Nat) (hi:i < (rowsN S ns).length):∃ (P:Option Addr) (c:Nat) (C:Int),W.cell? ⟨rb,i * 2,none⟩=some (.slice P (rowsN S ns)[i].length c)∧W.cell? ⟨rb,i * 2 + 1,none⟩=some (.int .i64 C)∧∀ t (ht:t < (rowsN S ns)[i].length),∃ Y o,P=some ⟨Y,o,none⟩∧W.cell? ⟨Y,o + t * 3,none⟩=some (.string (rowsN S ns)[i][t].1)∧W.cell? ⟨Y,o + t * 3 + 1,none⟩=some (.int .i64 ((rowsN S ns)[i][t].2.1:Int))∧W.cell? ⟨Y,o + t * 3 + 2,none⟩=some (.bool (rowsN S ns)[i][t].2.2):=by
  by_cases hs:i < S.length
  · have e:(rowsN S ns)[i]=S[i].ns:=by
      have h1:(rowsN S ns)[i]?=some S[i].ns:=by unfold rowsN; rw [List.getElem?_append_left (by simpa using hs),List.getElem?_map,List.getElem?_eq_getElem hs]; rfl
      rw [List.getElem?_eq_getElem hi] at h1; exact Option.some.inj h1
    rw [e]
    obtain ⟨q0,q1⟩:=h.cellS i hs
    refine ⟨_,_,_,q0,q1,fun t ht=>⟨_,_,rfl,?_⟩⟩
    obtain ⟨_,_,hseg,_⟩:=h.stat S[i] (List.getElem_mem _)
    have h9:=hseg.cells t ht
    rw [Nat.add_mul] at h9
    exact h9
  · have hl:(rowsN S ns).length=S.length + 1:=by simp [rowsN]
    have hi2:i=S.length:=by omega
    subst hi2
    have e:(rowsN S ns)[S.length]=ns:=by
      have h1:(rowsN S ns)[S.length]?=some ns:=by unfold rowsN; rw [List.getElem?_append_right (by simp)]; simp
      rw [List.getElem?_eq_getElem hi] at h1; exact Option.some.inj h1
    rw [e]
    obtain ⟨q0,q1,_⟩:=h.cells
    obtain ⟨P,c,hlv,_⟩:=h.last.form
    refine ⟨P,c,_,by rw [← hlv]; exact q0,q1,fun t ht=>?_⟩
    rcases h.last with ⟨e1,e2⟩ | ⟨Y,o,c',cur,e1,_,_,_,_,_,hseg⟩
    · rw [e2] at ht; simp at ht
    · rw [hlv] at e1
      injection e1 with e3 _ _
      refine ⟨Y,o * 3,e3,?_⟩
      have h9:=hseg.cells t ht
      rw [Nat.add_mul] at h9
      exact h9
set_option maxHeartbeats 4000000 in
set_option maxRecDepth 100000 in
theorem NodesM (hm:S.length ≤ 1048576) (hl:(rowsN S ns).flatten.length ≤ 1048576) (hsz:∀ x ∈ (rowsN S ns).flatten,x.1.size ≤ 281474976710656) (w:World) (h:LM w b0 g rb rc S lv E B ns):Calls Tryz.prog 9 #[ptr g] w fun e w'=>∃ v,e=.returned v∧w'.ownsRow w.heap.size 9 1 v (rowsN S ns).flatten.length ((rowsN S ns).flatten.map (fun n=>Value.string n.1))∧Below w.heap.size w w':=by
  obtain ⟨l0,l1,l2,l3,lf⟩:=lrow4 h.hd
  have HRW:Hid _:=h.rowAt
  obtain ⟨i0,hi,hz0,hz1,hz2⟩:=info_parts info9
  have HCL:Hid _:=clone_any
  have hLL:(rowsN S ns).length=S.length + 1:=by simp [rowsN]
  have HSZ:Hid (∀ x ∈ (rowsN S ns).flatten,x.1.size ≤ 281474976710656):=hsz
  obtain ⟨M,hM⟩:∃ M,S.length + 1=M:=⟨_,rfl⟩
  rw [hM] at l3 hLL
  have hMb:M ≤ 1048577:=by omega
  generalize rowsN S ns=L at *
  have HLL:Hid (L.length=M):=hLL
  have HTL:Hid (∀ i,(L.take i).flatten.length ≤ L.flatten.length):=fun i=>by
    conv=>rhs; rw [← List.take_append_drop i L]
    rw [List.flatten_append,List.length_append]; omega
  have HTS:Hid (∀ i (hi:i < L.length),(L.take (i + 1)).flatten=(L.take i).flatten ++ L[i]):=fun i hi=>by rw [List.take_succ_eq_append_getElem hi,List.flatten_append]; simp
  have HMM:Hid (∀ i (hi:i < L.length) x,x ∈ L[i] → x ∈ L.flatten):=fun i hi x hx=>List.mem_flatten.2 ⟨L[i],List.getElem_mem hi,hx⟩
  clear h hsz hLL hM hm
  go_enter Tryz.func9,Tryz.ntmps9
  go_wp2
  go_loopw [3,5,7,13] (fun cp _ _ ci wr=>∃ i:Nat,i ≤ M∧ci=.int .i64 (i:Int)∧Below w.heap.size w wr∧wr.ownsRow w.heap.size 9 1 cp (L.take i).flatten.length ((L.take i).flatten.map (fun n=>Value.string n.1))) (fun _ _ _ ci _=>M - (intOf ci).toNat)
  case atStart=>exact ⟨0,by omega,rfl,Below.refl _ _,⟨rfl,Or.inl ⟨rfl,rfl⟩⟩⟩
  case round =>
    obtain ⟨i,hi1,rfl,hb,ho⟩:=hrel
    have HB:Hid (Below w.heap.size w wr):=hb
    by_cases hlt:i < M
    · have hiL:i < L.length:=by rw [HLL.out]; exact hlt
      obtain ⟨P,c,C,r0,r1,hr2⟩:=HRW.out i hiL
      have HR2:Hid _:=hr2
      have HO:Hid _:=ho
      have y0:=cell_on r0 hb
      have y1:=cell_on r1 hb
      have hts:=HTS.out i hiL
      have htl:=HTL.out (i + 1)
      have hss0:=fun x hx=>HSZ.out x (HMM.out i hiL x hx)
      have HSS:Hid (∀ x ∈ L[i],x.1.size ≤ 281474976710656):=hss0
      rw [hts,List.length_append] at htl
      have HTS1:Hid ((L.take (i + 1)).flatten=(L.take i).flatten ++ L[i]):=hts
      generalize L[i]=xs at *
      generalize hA:(L.take i).flatten=A at *
      have hz0':(0:Int) ≤ (i:Int):=by omega
      have hz1':(i:Int) < (M:Int):=by omega
      clear ho hb hr2 r0 r1 hts hss0 hA hiL
      go_wp2
      go_loopw [3,7,20] (fun cp _ cj wx=>∃ j:Nat,j ≤ xs.length∧cj=.int .i64 (j:Int)∧Below w.heap.size w wx∧wx.ownsRow w.heap.size 9 1 cp (A.length + j) ((A ++ xs.take j).map (fun n=>Value.string n.1))) (fun _ _ cj _=>xs.length - (intOf cj).toNat)
      case atStart=>exact ⟨0,by omega,rfl,HB.out.alloc HB.out.size _,by
        rw [List.take_zero,List.append_nil,Nat.add_zero]
        exact own_on HO.out ((Below.refl _ _).alloc (Nat.le_refl _) _)⟩
      case round =>
        clear HO y0 y1 HB
        obtain ⟨j,hj,rfl,hb,ho⟩:=hrel
        have HBX:Hid (Below w.heap.size w _):=hb
        have HOX:Hid _:=ho
        by_cases hlt:j < xs.length
        · obtain ⟨Y,o,hP,x0,x1,x2⟩:=HR2.out j hlt
          subst hP
          have y0:=cell_on x0 hb
          have y1:=cell_on x1 hb
          have y2:=cell_on x2 hb
          have hj0:(0:Int) ≤ (j:Int):=by omega
          have hj1:(j:Int) < (xs.length:Int):=by omega
          have hss:=HSS.out xs[j] (List.getElem_mem hlt)
          have HTS2:Hid ((A ++ xs.take (j + 1)).map (fun n=>Value.string n.1)=A.map (fun n=>Value.string n.1) ++ ((xs.map (fun n=>Value.string n.1)).take j ++ [.string xs[j].1])):=by show _=_; rw [take_snoc xs j hlt,List.map_append,List.map_append,List.map_take]; rfl
          generalize xs[j].1=PK at *
          generalize xs[j].2.1=CN at *
          generalize xs[j].2.2=LG at *
          clear hb ho x0 x1 x2
          go_wp2_with fail
          refine (show Calls _ _ _ _ _ from HCL.out PK hss _).mono ?_
          rintro e w2 ⟨rfl,hb2⟩
          have hbw:=bel_to ((Below.refl _ wr).alloc (Nat.le_refl _) _) hb2 (Nat.le_refl _)
          have HB2:Hid (Below w.heap.size w w2):=bel_to HBX.out hbw (Nat.le_refl _)
          have HO3:Hid ((w2.alloc (.cells #[.string PK] 9)).ownsRow w.heap.size 9 1 _ (A.length + j) _):=own_on (own_on HOX.out hbw) ((Below.refl _ _).alloc (Nat.le_refl _) _)
          have HNC:Hid (∀ a u,[Value.string PK][a]?=some u → (w2.alloc (.cells #[.string PK] 9)).cell? ((⟨w2.heap.size,0,none⟩:Addr).add a)=some u):=fun a u ha=>by
            match a,ha with
            | 0,ha=>simp at ha; subst ha; rw [Addr.add_lit]; exact (row1 (one_alloc w2 (.cells #[.string PK] 9))).1
          clear hb2 hbw y0 y1 y2
          go_wp2_with (at_builtin; go_must (refine wpList_append_own _ rfl _ _ 22 rfl w.heap.size 9 i0 (.string ⟨#[]⟩) 1 16 Tryz.underlying22 hi hz0 hz1 hz2 rfl (by decide) _ _ _ rfl HO3.out ⟨w2.heap.size,0,none⟩ 1 1 [.string PK] rfl rfl HNC.out ?t1 ?t2 ?t3 ?t4 ?_))
          case t1=>intro u hu; simp at hu; subst hu; rfl
          case t2=>unfold maxLen; omega
          case t3=>omega
          case t4=>have:=HB2.out.size; simp; omega
          intro v' w4 hown hgr hiff
          have HB4:Hid (Below w.heap.size w w4):=(HB2.out.alloc HB2.out.size _).grown hgr (by have:=HB2.out.size; simp; omega) (fun b hb=>own_block HO3.out b hb)
          have HO4:Hid _:=hown
          clear hown hgr hiff
          go_wp2
          exact ⟨⟨j + 1,hlt,by congr 1,HB4.out,by rw [HTS2.out,← Nat.add_assoc]; exact HO4.out⟩,by simp [intOf]; omega⟩
        · have he:j=xs.length:=by omega
          subst he
          rw [List.take_length] at HOX
          clear hb ho
          go_wp2
          exact ⟨⟨i + 1,by omega,rfl,HBX.out,by rw [HTS1.out,List.length_append]; exact HOX.out⟩,by simp [intOf]; omega⟩
    · have he:i=M:=by omega
      subst he
      have htl:L.take i=L:=List.take_of_length_le (by rw [HLL.out]; exact Nat.le_refl _)
      rw [htl] at ho
      have HO:Hid _:=ho
      clear ho hb htl
      go_wp2
      go_returns
      exact ⟨_,rfl,HO.out,HB.out⟩
end
end Go.Proofs.YtijambehfobopaaGreatDoor
