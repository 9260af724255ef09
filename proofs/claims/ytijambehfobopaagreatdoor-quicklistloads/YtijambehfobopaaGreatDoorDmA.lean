import Derived.Test.YtijambehfobopaaGreatDoorQmH
import Derived.Test.YtijambehfobopaaGreatDoorWBD
namespace Go.Proofs.YtijambehfobopaaGreatDoor
open Go.RowKit
set_option linter.unusedVariables false
set_option linter.unusedSimpArgs false
theorem vals_itsX (X:List ByteArray):valsOf (itsOf X)=X:=by
  unfold valsOf itsOf
  rw [List.map_map]
  conv=>rhs; rw [← List.map_id X]
  refine List.map_congr_left (fun x _=>?_)
  show strB (LM.val (LM.itemOf x.data.toList))=id x
  rw [LM.val_itemOf,bytes_ext (strB_list x.data.toList)]; rfl
/-- what stands in a block of its own,behind a store into another one. -/
theorem own_cells {w:World} {b T sz n:Nat} {v:Value} {xs:List Value} (h:w.ownsRow b T sz v n xs) (Y:Nat) (hY:v.ownBlock=some Y):b ≤ Y∧∃ cur,w.heap[Y]?=some (.cells cur T):=by
  rcases h.2 with ⟨e,e2⟩ | ⟨g',cap,cur,e,r1,r2,r3⟩
  · rw [e] at hY; cases hY
  · rw [e] at hY
    have:g'=Y:=by simpa [Value.ownBlock] using hY
    subst this
    exact ⟨r1,cur,r2⟩
/-- rows of texts,each in a block of its own. -/
def OwnR (b:Nat) (w:World):List Value → QM.NL → Prop
  | [],[]=>True
  | u :: us,x :: N=>w.ownsRow b 9 1 u x.length (strV x)∧OwnR b w us N
  | _,_=>False
theorem OwnR.imp {b:Nat} {w w2:World} (f:∀ (u:Value) (x:List ByteArray),w.ownsRow b 9 1 u x.length (strV x) → w2.ownsRow b 9 1 u x.length (strV x)):∀ {us:List Value} {N:QM.NL},OwnR b w us N → OwnR b w2 us N
  | [],[],_=>trivial
  | u :: us,x :: N,h=>⟨f _ _ h.1,OwnR.imp f h.2⟩
  | [],_ :: _,h=>h.elim
  | _ :: _,[],h=>h.elim
theorem OwnR.snoc {b:Nat} {w:World} {u:Value} {x:List ByteArray} (hu:w.ownsRow b 9 1 u x.length (strV x)):∀ {us:List Value} {N:QM.NL},OwnR b w us N → OwnR b w (us ++ [u]) (N ++ [x])
  | [],[],_=>⟨hu,trivial⟩
  | v :: us,y :: N,h=>⟨h.1,OwnR.snoc hu h.2⟩
  | [],_ :: _,h=>h.elim
  | _ :: _,[],h=>h.elim
theorem OwnR.rows {b:Nat} {w:World} {ok:Nat → Prop} (hk:∀ q,b ≤ q → ok q):∀ {us:List Value} {N:QM.NL},OwnR b w us N → Rows ok w us N
  | [],[],_=>trivial
  | v :: us,y :: N,h=>⟨DRow.of_own h.1 (by simp) hk,OwnR.rows hk h.2⟩
  | [],_ :: _,h=>h.elim
  | _ :: _,[],h=>h.elim
theorem own_typed {w w':World} {b T sz n:Nat} {v:Value} {xs:List Value} (h:w.ownsRow b T sz v n xs) (hk:∀ (Y:Nat) (cur:Array Value),w.heap[Y]?=some (.cells cur T) → w'.heap[Y]?=w.heap[Y]?):w'.ownsRow b T sz v n xs:=by
  obtain ⟨h1,h2⟩:=h
  refine ⟨h1,?_⟩
  rcases h2 with ⟨e,e2⟩ | ⟨g',cap,cur,e,r1,r2,r3⟩
  · exact Or.inl ⟨e,e2⟩
  · exact Or.inr ⟨g',cap,cur,e,r1,(hk g' cur r2).trans r2,r3⟩
/-- append to a row of its own,of rows,however many. -/
theorem app_row2 {ok:Nat → Prop} {w:World} {ops:Array Oper} {rest:List Oper} {o:Oper} {a:Act} {Q:Exit → Act → World → Prop} (hg:o.guard=none) (s x:Operand)
    (hop:o.op=Op.call { callee:=Callee.builtin Builtin.append,args:=#[s,x],argTypes:=#[27,27] })
    (base:Nat) (v:Value) (n:Nat) (xs:List Value) (hs:a.eval s=v) (hown:w.ownsRow base 22 1 v n xs) (xv:Value) (ys:List Value) (hx:a.eval x=xv) (hy:DRow ok w xv ys) (h1:∀ u ∈ ys,u.oneCell'=true)
    (m:Nat) (hm:m=n + ys.length) (hl:m ≤ 8796093022208) (hb:base ≤ w.heap.size)
    (h:∀ v' w',w'.ownsRow base 22 1 v' m (xs ++ ys) → w.grownBy w' v.ownBlock → wpList Tryz.prog ops Q rest (a.put o.dst v') w') :
    wpList Tryz.prog ops Q (o :: rest) a w:=by
  subst hm
  obtain ⟨i0,hi,hz0,hz1,hz2⟩:=info_parts infoR
  rcases hy with ⟨rfl,rfl⟩ | ⟨g,of,c,rfl,h2,h3,h4,h5⟩
  · refine wpList_append_own_none hg s x 27 hop base 22 i0 1 Tryz.underlying27 hi v n xs hs hown hx ?_
    exact h v w (by simpa using hown) (World.grownBy.refl w _)
  · refine wpList_append_own_wide _ hg s x 27 hop base 22 i0 (.slice none 0 0) 1 24 Tryz.underlying27 hi hz0 hz1 hz2 rfl (by decide) v n xs hs hown ⟨g,of,none⟩ ys.length c ys hx (by simp) (fun j u hu=>by rw [Lib.add_plain]; exact h5 j u hu) h1 (by unfold maxLen; omega) (by omega) hb ?_
    intro v' w' h1 h2 h3; exact h v' w' h1 h2
theorem flat_le:∀ (N:QM.NL) (i:Nat),(∀ X ∈ N,X.length ≤ 4096) → (N.take i).flatten.length ≤ 4096 * i
  | [],i,_=>by simp
  | X :: N,0,_=>by simp
  | X :: N,i + 1,h=>by
    have h1:=flat_le N i (fun Y hY=>h Y (List.mem_cons_of_mem _ hY))
    have h2:=h X List.mem_cons_self
    rw [List.take_succ_cons,List.flatten_cons,List.length_append]
    omega
set_option maxHeartbeats 8000000 in
set_option maxRecDepth 100000 in
/-- the document's Load. -/
theorem rLoad (E B:Nat) (hm:mayB (E:Int) (B:Int)=true) (N:QM.NL) (ps:List ByteArray) (hN:∀ X ∈ N,goodX E B X) (hln:ps.length ≤ 8796093022207) (hsz:∀ p ∈ ps,p.size ≤ 140737488351232) (hle:N.length ≤ ps.length) (hps:∀ j (hj:j < N.length),ps[j]'(by omega)=packN N[j]) (hbad:∀ h:N.length < ps.length,¬ goodP E B ps[N.length])
    (P:Option Addr) (cc:Nat) (w:World) (hrow:∀ j (hj:j < ps.length),∃ Y o,P=some ⟨Y,o,none⟩∧w.cell? ⟨Y,o + j,none⟩=some (.string ps[j])) :
    Calls Tryz.prog 6 #[.int .i64 (E:Int),.int .i64 (B:Int),.slice P ps.length cc] w fun e w'=>(if N.length=ps.length∧N.flatten.length ≤ 1048576 then ∃ v,e=.returned (.tuple #[rlV E B v,.int .i64 0])∧RL (fun k=>w.heap.size ≤ k) w' v N else e=.returned (.tuple #[rlV 0 0 (.slice none 0 0),.int .i64 70]))∧Below w.heap.size w w':=by
  obtain ⟨Q,hQ⟩:∃ Q:Ending → World → Prop,Q=fun e w'=>if N.length=ps.length∧N.flatten.length ≤ 1048576 then ∃ v,e=.returned (.tuple #[rlV E B v,.int .i64 0])∧RL (fun k=>w.heap.size ≤ k) w' v N else e=.returned (.tuple #[rlV 0 0 (.slice none 0 0),.int .i64 70]):=⟨_,rfl⟩
  have hQ1:∀ v w',N.length=ps.length∧N.flatten.length ≤ 1048576 → RL (fun k=>w.heap.size ≤ k) w' v N → Q (.returned (.tuple #[rlV E B v,.int .i64 0])) w':=fun v w' h h2=>by rw [hQ]; show (if N.length=ps.length∧N.flatten.length ≤ 1048576 then _ else _); rw [if_pos h]; exact ⟨v,rfl,h2⟩
  have hQ2:∀ w',¬ (N.length=ps.length∧N.flatten.length ≤ 1048576) → Q (.returned (.tuple #[rlV 0 0 (.slice none 0 0),.int .i64 70])) w':=fun w' h=>by rw [hQ]; show (if N.length=ps.length∧N.flatten.length ≤ 1048576 then _ else _); rw [if_neg h]
  suffices hs:Calls Tryz.prog 6 #[.int .i64 (E:Int),.int .i64 (B:Int),.slice P ps.length cc] w fun e w'=>Q e w'∧Below w.heap.size w w' by rw [hQ] at hs; exact hs
  clear hQ
  have hEB:E ≤ 4096∧B ≤ 4096:=by unfold mayB at hm; simp at hm; omega
  have hE:=hEB.1
  have hB:=hEB.2
  have HGX:Hid (∀ X ∈ N,goodX E B X):=hN
  have HR:Hid _:=hrow
  have HPS:Hid (∀ j (hj:j < N.length),ps[j]'(by omega)=packN N[j]):=hps
  have HBAD:Hid (∀ h:N.length < ps.length,¬ goodP E B ps[N.length]):=hbad
  have HSZ:Hid (∀ p ∈ ps,p.size ≤ 140737488351232):=hsz
  have HFLT:Hid (∀ i,(N.take i).flatten.length ≤ 4096 * i):=fun i=>flat_le N i (fun X hX=>by have:=(hN X hX).2.2.1; omega)
  obtain ⟨n,hn⟩:∃ n,ps.length=n:=⟨_,rfl⟩
  have HNN:Hid (ps.length=n):=hn
  obtain ⟨n1,hn1⟩:∃ n,N.length=n:=⟨_,rfl⟩
  have HN1:Hid (N.length=n1):=hn1
  rw [hn1,hn] at hQ1 hQ2
  have HQ1:Hid (∀ v w',n1=n∧N.flatten.length ≤ 1048576 → RL (fun k=>w.heap.size ≤ k) w' v N → Q (.returned (.tuple #[rlV E B v,.int .i64 0])) w'):=hQ1
  have HQ2:Hid (∀ w',¬ (n1=n∧N.flatten.length ≤ 1048576) → Q (.returned (.tuple #[rlV 0 0 (.slice none 0 0),.int .i64 70])) w'):=hQ2
  rw [hn1] at hle
  rw [hn] at hle hln ⊢
  clear hQ1 hQ2
  obtain ⟨W0,hW0⟩:∃ W0,W0=w.alloc (.cells #[.int .i64 0,.int .i64 0,.slice none 0 0] 29):=⟨_,rfl⟩
  have HB0:Hid (Below w.heap.size w W0):=by show Below _ _ _; rw [hW0]; exact (Below.refl _ _).alloc (Nat.le_refl _) _
  obtain ⟨q6,hq6⟩:∃ q,w.heap.size=q:=⟨_,rfl⟩
  have HQ6:Hid (w.heap.size=q6):=hq6
  have HR6:Hid (W0.heap[q6]?=some (.cells #[.int .i64 0,.int .i64 0,.slice none 0 0] 29)):=by show _=_; rw [hW0,← hq6]; exact one_alloc _ _
  have HN:Hid _:=rnew_yes E B hm W0
  clear hN hrow hps hbad hsz hm hn hn1 hEB hq6
  go_enter Tryz.func6,Tryz.ntmps6
  go_upto_region 1 with fail
  rw [← hW0,HQ6.out]
  clear hW0
  go_wp2_with fail
  refine (show Calls _ _ _ _ _ from HN.out).mono ?_
  rintro e w1 ⟨rfl,hb1⟩
  obtain ⟨W1,hW1⟩:∃ W1,W1=w1.alloc (.cells #[.int .i64 (E:Int),.int .i64 (B:Int),.slice none 0 0] 29):=⟨_,rfl⟩
  obtain ⟨lb,hlb⟩:∃ l,w1.heap.size=l:=⟨_,rfl⟩
  have hrl:W1.heap[lb]?=some (.cells #[.int .i64 (E:Int),.int .i64 (B:Int),.slice none 0 0] 29):=by rw [hW1,← hlb]; exact one_alloc _ _
  have HRL:Hid _:=hrl
  have hb2:Below W0.heap.size W0 W1:=by rw [hW1]; exact hb1.alloc hb1.size _
  have HB2:Hid (Below W0.heap.size W0 W1):=hb2
  have HLB:Hid (w1.heap.size=lb):=hlb
  have HLQ:Hid (q6 < lb):=by show _ < _; rw [← hlb]; exact Nat.lt_of_lt_of_le (row_lt HR6.out) hb1.size
  clear hb1 hb2 hrl hlb
  go_upto_region 2 with fail
  rw [← hW1,HLB.out]
  clear hW1
  go_wp2
  go_loopw [10,11] (fun cc ci wr=>∃ (i:Nat) (v:Value) (us:List Value),(i ≤ n1∧wr.heap[lb]?=some (.cells #[.int .i64 (E:Int),.int .i64 (B:Int),v] 29)∧wr.heap[q6]?=some (.cells #[.int .i64 0,.int .i64 0,.slice none 0 0] 29)∧wr.ownsRow w.heap.size 22 1 v i us∧OwnR w.heap.size wr us (N.take i)∧Below w.heap.size w wr)∧cc=.int .i64 ((N.take i).flatten.length:Int)∧ci=.int .i64 (i:Int)) (fun _ ci _=>n - (intOf ci).toNat)
  case atStart=>exact ⟨0,_,[],⟨by omega,HRL.out,keep_row HR6.out HB2.out,own_nil _ _ _,trivial,HB0.out.trans (HB2.out.mono HB0.out.size)⟩,rfl,rfl⟩
  case round =>
    obtain ⟨i,v,us,⟨hi,hrl,hr6,ho,hR,hb⟩,rfl,rfl⟩:=hrel
    have HRL:Hid (wr.heap[lb]?=some (.cells #[.int .i64 (E:Int),.int .i64 (B:Int),v] 29)):=hrl
    have HR6w:Hid (wr.heap[q6]?=some (.cells #[.int .i64 0,.int .i64 0,.slice none 0 0] 29)):=hr6
    have HO:Hid (wr.ownsRow w.heap.size 22 1 v i us):=ho
    have HRW:Hid (OwnR w.heap.size wr us (N.take i)):=hR
    have HB:Hid (Below w.heap.size w wr):=hb
    obtain ⟨VP,vc,hvf⟩:=own_form ho
    have HVF:Hid (v=.slice VP i vc):=hvf
    have hTl:(N.take i).flatten.length ≤ 36028797018963968:=by have:=HFLT.out i; omega
    obtain ⟨T0,hT0⟩:∃ T,(N.take i).flatten.length=T:=⟨_,rfl⟩
    have HT0:Hid ((N.take i).flatten.length=T0):=hT0
    rw [hT0] at hTl ⊢
    by_cases hlt:i < n
    · have hix:i < ps.length:=by rw [HNN.out]; exact hlt
      obtain ⟨Y,o,hP,y0⟩:=HR.out i hix
      subst hP
      have y0:=cell_on y0 hb
      have hz0:(0:Int) ≤ (i:Int):=by omega
      have hz1:(i:Int) < (n:Int):=by omega
      have hpz:=HSZ.out ps[i] (List.getElem_mem _)
      have HG1:Hid (∀ X,i < n1 → ps[i]=packN X → Fit X → goodX E B X):=fun X hg hp hf=>by
        have hiN:i < N.length:=by rw [HN1.out]; exact hg
        have h1:=HPS.out i hiN
        have h2:=HGX.out _ (List.getElem_mem hiN)
        have h3:N[i]=X:=by
          have e1:packN N[i]=packN X:=by rw [← h1,hp]
          have p1:=h2.1.pk
          have p2:=hf.pk
          rw [e1] at p1
          have e2:=p1.uniq p2
          rw [← vals_itsX N[i],← vals_itsX X,e2]
        rw [← h3]; exact h2
      have HG2:Hid (∀ X,ps[i]=packN X → goodX E B X → i < n1∧∃ hiN:i < N.length,N[i]=X):=fun X hp hg=>by
        have hlt1:i < n1:=by
          apply Classical.byContradiction
          intro hn
          have hie:N.length=i:=by rw [HN1.out]; omega
          have h9:=HBAD.out (by rw [hie]; exact hix)
          have e:ps[N.length]'(by rw [hie]; exact hix)=ps[i]:=by congr 1
          rw [e] at h9
          exact h9 ⟨X,hp,hg⟩
        have hiN:i < N.length:=by rw [HN1.out]; exact hlt1
        refine ⟨hlt1,hiN,?_⟩
        have h1:=HPS.out i hiN
        have h2:=HGX.out _ (List.getElem_mem hiN)
        have e1:packN N[i]=packN X:=by rw [← h1,hp]
        have p1:=h2.1.pk
        have p2:=hg.1.pk
        rw [e1] at p1
        have e2:=p1.uniq p2
        rw [← vals_itsX N[i],← vals_itsX X,e2]
      have HGV:Hid (i < n1 → ∃ l,LM.Pk ps[i].data.toList l):=fun hg=>by
        have hiN:i < N.length:=by rw [HN1.out]; exact hg
        rw [HPS.out i hiN]
        exact ⟨_,(HGX.out _ (List.getElem_mem hiN)).1.pk⟩
      have HWK:Hid _:=rWalk_any ps[i] (by omega) false wr
      generalize ps[i]=p at *
      have HNE:Hid (¬ i < n1 → ¬ n1=n):=fun h e=>by omega
      have hqlb:q6 < lb:=HLQ.out
      clear hrl hr6 ho hR hb hT0 hpz hvf
      go_wp2_with fail
      refine (show Calls _ _ _ _ _ from HWK.out).mono ?_
      rintro e w2 ⟨hcase,hb2⟩
      have HB3:Hid (Below w.heap.size w w2):=bel_to HB.out hb2 (Nat.le_refl _)
      have HRL2:Hid (w2.heap[lb]?=some (.cells #[.int .i64 (E:Int),.int .i64 (B:Int),v] 29)):=keep_row HRL.out hb2
      have HR62:Hid (w2.heap[q6]?=some (.cells #[.int .i64 0,.int .i64 0,.slice none 0 0] 29)):=keep_row HR6w.out hb2
      have HO2:Hid (w2.ownsRow w.heap.size 22 1 v i us):=own_on HO.out hb2
      have HRW2:Hid (OwnR w.heap.size w2 us (N.take i)):=HRW.out.imp (fun _ _ q=>own_on q hb2)
      have HSZ2:Hid (lb < wr.heap.size):=row_lt HRL.out
      have HQB:Hid (w.heap.size ≤ q6∧w.heap.size ≤ lb):=by have:=HQ6.out; exact ⟨by omega,by omega⟩
      have HFIN:Hid (∀ W,Below w2.heap.size w2 W → W.heap[q6]?=some (.cells #[.int .i64 0,.int .i64 0,.slice none 0 0] 29)):=fun W hW=>keep_row HR62.out hW
      rcases hcase with ⟨l,xv,hpk,rfl,hox⟩ | ⟨hno,rfl⟩
      · obtain ⟨hpe,hfit⟩:=pk_pack hpk
        rw [if_neg (by simp)] at hox
        rw [← vals_len l] at hox
        obtain ⟨XP,xc,hxf⟩:=own_form hox
        subst hxf
        generalize valsOf l=X at *
        have HOX:Hid (w2.ownsRow wr.heap.size 9 1 (.slice XP X.length xc) X.length (strV X)):=hox
        have HFT:Hid (Fit X):=hfit
        have HPE:Hid (p=packN X):=hpe
        have hXl:=hfit.len
        clear hox hpk hfit hb2 y0
        by_cases hok:1 ≤ X.length∧X.length ≤ E
        · have h0:((X.length:Int) == 0)=false:=beq_eq_false_iff_ne.2 (by omega)
          have h1:¬ ((E:Int) < (X.length:Int)):=by omega
          go_wp2
          go_loopw [14] (fun ck wx=>∃ k:Nat,(k ≤ X.length∧wx=w2∧∀ t (ht:t < X.length),t < k → (X[t].size ≤ B ∨ X.length=1))∧ck=.int .i64 (k:Int)) (fun ck _=>X.length - (intOf ck).toNat)
          case atStart=>exact ⟨0,⟨by omega,rfl,fun t ht h=>absurd h (Nat.not_lt_zero _)⟩,rfl⟩
          case round =>
            obtain ⟨k,⟨hk,hwx,hkk⟩,rfl⟩:=hrel
            have hwx2:=hwx.symm
            clear hwx
            subst hwx2
            have HKK:Hid (∀ t (ht:t < X.length),t < k → (X[t].size ≤ B ∨ X.length=1)):=hkk
            clear hkk
            by_cases hkl:k < X.length
            · obtain ⟨XY,xo,hXP,x0⟩:∃ XY xo,XP=some ⟨XY,xo,none⟩∧w2.cell? ⟨XY,xo + k,none⟩=some (.string X[k]):=by
                rcases HOX.out.2 with ⟨e,e2⟩ | ⟨gg,cap,cur,e,_,r2,_,_,_,r6⟩
                · omega
                · injection e with e1 _ _
                  refine ⟨gg,0,e1,?_⟩
                  rw [Nat.zero_add,cell_of_row _ _ _ _ _ _ r2,← Array.getElem?_toList,← List.getElem?_take_of_lt (show k < X.length * 1 by omega),r6]
                  simp [hkl]
              subst hXP
              have hs1:=HFT.out.short X[k] (List.getElem_mem _)
              have hk0:(0:Int) ≤ (k:Int):=by omega
              have hk1:(k:Int) < (X.length:Int):=by omega
              have hs2:¬ ((524288:Int) < (X[k].size:Int)):=by omega
              have HST:Hid (X[k].size ≤ B ∨ X.length=1 → ∀ t (ht:t < X.length),t < k + 1 → (X[t].size ≤ B ∨ X.length=1)):=fun h t ht hlt=>by
                by_cases e:t=k
                · subst e; exact h
                · exact HKK.out t ht (by omega)
              have HBD:Hid (¬ (X[k].size ≤ B ∨ X.length=1) → ¬ goodX E B X):=fun h hg=>by
                rcases hg.2.2.2 with h1 | h1
                · exact h (Or.inr h1)
                · exact h (Or.inl (h1 _ (List.getElem_mem _)))
              generalize X[k]=TX at *
              by_cases hbig:TX.size ≤ B
              · have hs3:¬ ((B:Int) < (TX.size:Int)):=by omega
                go_wp2
                go_roundw
                case rel=>exact ⟨k + 1,⟨hkl,trivial,HST.out (Or.inl hbig)⟩,rfl⟩
                case measure=>simp [intOf]; omega
              · have hs3:(B:Int) < (TX.size:Int):=by omega
                by_cases hone:X.length=1
                · have hs4:¬ ((1:Int) < (X.length:Int)):=by omega
                  have HON:Hid (X.length=1):=hone
                  clear hone
                  go_wp2
                  go_roundw
                  case rel=>exact ⟨k + 1,⟨hkl,trivial,HST.out (Or.inr HON.out)⟩,rfl⟩
                  case measure=>simp [intOf]; omega
                · have hs4:(1:Int) < (X.length:Int):=by omega
                  have HNG:Hid (¬ n1=n):=HNE.out (fun hg=>HBD.out (by omega) (HG1.out X hg HPE.out HFT.out))
                  obtain ⟨z0,z1,z2,zf⟩:=row3 HR62.out
                  have HBF:Hid (Below w.heap.size w (((w2.setCell ⟨q6,0,none⟩ (.int .i64 0)).setCell ⟨q6,1,none⟩ (.int .i64 0)).setCell ⟨q6,2,none⟩ (.slice none 0 0))):=((HB3.out.setCell (p:=⟨q6,0,none⟩) HQB.out.1 _).setCell (p:=⟨q6,1,none⟩) HQB.out.1 _).setCell (p:=⟨q6,2,none⟩) HQB.out.1 _
                  have HGG:Hid _:=heap_set3 w2 q6 29 _ _ _ (.int .i64 0) (.int .i64 0) (.slice none 0 0) HR62.out
                  go_wp2
                  obtain ⟨g0,g1,g2,gf⟩:=row3 HGG.out.1
                  exact bodyPost_ret (v:=.tuple #[rlV 0 0 (.slice none 0 0),.int .i64 70]) (by simp [results,Tryz.results6,go_sem,g0,g1,g2]) rfl ⟨HQ2.out _ (fun h=>HNG.out h.1),HBF.out⟩
            · have hke:k=X.length:=by omega
              have HGO:Hid (goodX E B X):=⟨HFT.out,hok.1,hok.2,by
                by_cases h1:X.length=1
                · exact Or.inl h1
                · right
                  intro t ht
                  obtain ⟨j,hj,rfl⟩:=List.getElem_of_mem ht
                  rcases HKK.out j hj (by omega) with h | h
                  · exact h
                  · exact absurd h h1⟩
              obtain ⟨hgd,hiN,hNX⟩:=HG2.out X HPE.out HGO.out
              have HTK:Hid (N.take (i + 1)=N.take i ++ [X]):=by show _=_; rw [List.take_succ_eq_append_getElem hiN,hNX]
              have HT1:Hid ((N.take (i + 1)).flatten.length=T0 + X.length):=by show _=_; rw [HTK.out,List.flatten_append,List.length_append,HT0.out]; simp
              have hT1:T0 + X.length ≤ 36028797018968064:=by omega
              obtain ⟨T1,hT1e⟩:∃ T,T0 + X.length=T:=⟨_,rfl⟩
              rw [hT1e] at HT1
              have hw1:IntKind.i64.wrap ((T0:Int) + (X.length:Int))=(T1:Int):=by rw [IntKind.wrap_i64] <;> omega
              have hiw:IntKind.i64.wrap ((i:Int) + 1)=(i:Int) + 1:=by rw [IntKind.wrap_i64] <;> omega
              clear hke hk hiN hNX hok
              have hvf:=HVF.out
              rw [hvf] at HRL2
              obtain ⟨c0,c1,c2,cf⟩:=row3 HRL2.out
              obtain ⟨W3,hW3⟩:∃ W3,W3=w2.alloc (.cells #[.slice XP X.length xc] 22):=⟨_,rfl⟩
              have hb3:Below w2.heap.size w2 W3:=by rw [hW3]; exact (Below.refl _ _).alloc (Nat.le_refl _) _
              have HB4:Hid (Below w2.heap.size w2 W3):=hb3
              have HD1:Hid (DRow (fun _=>True) W3 (.slice (some ⟨w2.heap.size,0,none⟩) 1 1) [.slice XP X.length xc]):=by rw [hW3]; exact drow_one _ _ _
              have HO3:Hid (W3.ownsRow w.heap.size 22 1 (.slice VP i vc) i us):=by have:=own_on HO2.out hb3; rw [hvf] at this; exact this
              have hBL:w.heap.size ≤ W3.heap.size:=Nat.le_trans HB3.out.size hb3.size
              clear hb3 hvf
              go_upto_region 17 with fail
              go_wp2_with (rw [← hW3]; at_builtin; go_must (refine app_row2 rfl _ _ rfl w.heap.size (.slice VP i vc) i us rfl HO3.out (.slice (some ⟨w2.heap.size,0,none⟩) 1 1) [.slice XP X.length xc] rfl HD1.out (by simp [Value.oneCell']) (i + 1) rfl (by omega) hBL ?_))
              intro v' w4 hown hgr
              obtain ⟨VP2,vc2,hv2⟩:=own_form hown
              subst hv2
              have hvb:∀ Y,(Value.slice VP i vc).ownBlock=some Y → ∃ cur,W3.heap[Y]?=some (.cells cur 22):=fun Y hY=>(own_cells HO3.out Y hY).2
              have eT:∀ (Y:Nat) (cur:Array Value) (T:Nat),T ≠ 22 → W3.heap[Y]?=some (.cells cur T) → w4.heap[Y]?=W3.heap[Y]?:=fun Y cur T hT hY=>by
                rw [hW3] at hY ⊢
                refine hgr.block Y (row_lt hY) (fun e=>?_)
                obtain ⟨cu,hc⟩:=hvb Y e.symm
                rw [hW3,hY] at hc
                simp at hc
                exact hT hc.2
              have hl4:w4.heap[lb]?=some (.cells #[.int .i64 (E:Int),.int .i64 (B:Int),.slice VP i vc] 29):=by
                have h1:=keep_row HRL2.out HB4.out
                exact (eT _ _ _ (by decide) h1).trans h1
              have hq4:w4.heap[q6]?=some (.cells #[.int .i64 0,.int .i64 0,.slice none 0 0] 29):=by
                have h1:=keep_row HR62.out HB4.out
                exact (eT _ _ _ (by decide) h1).trans h1
              have HX4:Hid (w4.ownsRow wr.heap.size 9 1 (.slice XP X.length xc) X.length (strV X)):=own_typed (own_on HOX.out HB4.out) (fun Y cur hY=>eT Y cur 9 (by decide) hY)
              have HU4:Hid (OwnR w.heap.size w4 us (N.take i)):=HRW2.out.imp (fun _ _ q=>own_typed (own_on q HB4.out) (fun Y cur hY=>eT Y cur 9 (by decide) hY))
              have HB5:Hid (Below w.heap.size w w4):=by
                have h1:Below w.heap.size w W3:=bel_to HB3.out HB4.out (Nat.le_refl _)
                refine ⟨hgr.os.trans (by rw [← hW3]; exact h1.os),hgr.tape.trans (by rw [← hW3]; exact h1.tape),hgr.output.trans (by rw [← hW3]; exact h1.output),Nat.le_trans h1.size (by rw [hW3]; exact hgr.size),fun k hk=>?_⟩
                rw [← h1.block k hk]
                have hks:k < W3.heap.size:=Nat.lt_of_lt_of_le hk h1.size
                rw [hW3] at hks ⊢
                refine hgr.block k hks (fun e=>?_)
                have:=(own_cells HO3.out k e.symm).1
                omega
              have HOW:Hid (w4.ownsRow w.heap.size 22 1 (.slice VP2 (i + 1) vc2) (i + 1) (us ++ [.slice XP X.length xc])):=hown
              have HL4:Hid _:=hl4
              have HQ4:Hid _:=hq4
              obtain ⟨d0,d1,d2,df⟩:=row3 hl4
              have HFI:Hid ((w4.setCell ⟨lb,2,none⟩ (.slice VP2 (i + 1) vc2)).heap[lb]?=some (.cells #[.int .i64 (E:Int),.int .i64 (B:Int),.slice VP2 (i + 1) vc2] 29)∧(w4.setCell ⟨lb,2,none⟩ (.slice VP2 (i + 1) vc2)).heap[q6]?=some (.cells #[.int .i64 0,.int .i64 0,.slice none 0 0] 29)∧(w4.setCell ⟨lb,2,none⟩ (.slice VP2 (i + 1) vc2)).ownsRow w.heap.size 22 1 (.slice VP2 (i + 1) vc2) (i + 1) (us ++ [.slice XP X.length xc])∧OwnR w.heap.size (w4.setCell ⟨lb,2,none⟩ (.slice VP2 (i + 1) vc2)) (us ++ [.slice XP X.length xc]) (N.take (i + 1))∧Below w.heap.size w (w4.setCell ⟨lb,2,none⟩ (.slice VP2 (i + 1) vc2))):=by
                have eO:∀ (Y:Nat) (cur:Array Value) (T:Nat),T ≠ 29 → w4.heap[Y]?=some (.cells cur T) → (w4.setCell ⟨lb,2,none⟩ (.slice VP2 (i + 1) vc2)).heap[Y]?=w4.heap[Y]?:=fun Y cur T hT hY=>heap_setCell_other _ _ _ _ (fun e=>by subst e; rw [hl4] at hY; simp at hY; exact hT hY.2.symm)
                refine ⟨?_,?_,own_typed HOW.out (fun Y cur hY=>eO Y cur _ (by decide) hY),?_,HB5.out.setCell (p:=⟨lb,2,none⟩) HQB.out.2 _⟩
                · rw [heap_setCell_same _ _ _ _ _ _ hl4]; rfl
                · rw [heap_setCell_other _ _ _ _ (show q6 ≠ lb by have:=HLQ.out; omega)]; exact hq4
                · rw [HTK.out]
                  refine OwnR.snoc (own_typed (own_lower HX4.out HB.out.size) (fun Y cur hY=>eO Y cur 9 (by decide) hY)) (HU4.out.imp (fun _ _ q=>own_typed q (fun Y cur hY=>eO Y cur 9 (by decide) hY)))
              clear hown hgr hl4 hq4 hvb eT c0 c1 c2 cf hW3
              go_wp2
              exact ⟨⟨i + 1,_,_,⟨hgd,HFI.out.1,HFI.out.2.1,HFI.out.2.2.1,HFI.out.2.2.2.1,HFI.out.2.2.2.2⟩,by rw [HT1.out],by congr 1⟩,by simp [intOf]; omega⟩
        · have HNG:Hid (¬ n1=n):=HNE.out (fun hg=>by
            have:=HG1.out X hg HPE.out HFT.out
            exact hok ⟨this.2.1,this.2.2.1⟩)
          by_cases h0:X.length=0
          · have h1:((X.length:Int) == 0)=true:=by simp only [beq_iff_eq]; omega
            clear h0 hok
            obtain ⟨z0,z1,z2,zf⟩:=row3 HR62.out
            have HBF:Hid (Below w.heap.size w (((w2.setCell ⟨q6,0,none⟩ (.int .i64 0)).setCell ⟨q6,1,none⟩ (.int .i64 0)).setCell ⟨q6,2,none⟩ (.slice none 0 0))):=((HB3.out.setCell (p:=⟨q6,0,none⟩) HQB.out.1 _).setCell (p:=⟨q6,1,none⟩) HQB.out.1 _).setCell (p:=⟨q6,2,none⟩) HQB.out.1 _
            have HGG:Hid _:=heap_set3 w2 q6 29 _ _ _ (.int .i64 0) (.int .i64 0) (.slice none 0 0) HR62.out
            go_wp2
            obtain ⟨g0,g1,g2,gf⟩:=row3 HGG.out.1
            exact bodyPost_ret (v:=.tuple #[rlV 0 0 (.slice none 0 0),.int .i64 70]) (by simp [results,Tryz.results6,go_sem,g0,g1,g2]) rfl ⟨HQ2.out _ (fun h=>HNG.out h.1),HBF.out⟩
          · have h1:((X.length:Int) == 0)=false:=beq_eq_false_iff_ne.2 (by omega)
            have h2:(E:Int) < (X.length:Int):=by omega
            clear h0 hok
            obtain ⟨z0,z1,z2,zf⟩:=row3 HR62.out
            have HBF:Hid (Below w.heap.size w (((w2.setCell ⟨q6,0,none⟩ (.int .i64 0)).setCell ⟨q6,1,none⟩ (.int .i64 0)).setCell ⟨q6,2,none⟩ (.slice none 0 0))):=((HB3.out.setCell (p:=⟨q6,0,none⟩) HQB.out.1 _).setCell (p:=⟨q6,1,none⟩) HQB.out.1 _).setCell (p:=⟨q6,2,none⟩) HQB.out.1 _
            have HGG:Hid _:=heap_set3 w2 q6 29 _ _ _ (.int .i64 0) (.int .i64 0) (.slice none 0 0) HR62.out
            go_wp2
            obtain ⟨g0,g1,g2,gf⟩:=row3 HGG.out.1
            exact bodyPost_ret (v:=.tuple #[rlV 0 0 (.slice none 0 0),.int .i64 70]) (by simp [results,Tryz.results6,go_sem,g0,g1,g2]) rfl ⟨HQ2.out _ (fun h=>HNG.out h.1),HBF.out⟩
      · have HNG:Hid (¬ n1=n):=HNE.out (fun hg=>by obtain ⟨l,hl⟩:=HGV.out hg; exact hno l hl)
        clear hno hb2 y0
        obtain ⟨z0,z1,z2,zf⟩:=row3 HR62.out
        have HBF:Hid (Below w.heap.size w (((w2.setCell ⟨q6,0,none⟩ (.int .i64 0)).setCell ⟨q6,1,none⟩ (.int .i64 0)).setCell ⟨q6,2,none⟩ (.slice none 0 0))):=((HB3.out.setCell (p:=⟨q6,0,none⟩) HQB.out.1 _).setCell (p:=⟨q6,1,none⟩) HQB.out.1 _).setCell (p:=⟨q6,2,none⟩) HQB.out.1 _
        have HGG:Hid _:=heap_set3 w2 q6 29 _ _ _ (.int .i64 0) (.int .i64 0) (.slice none 0 0) HR62.out
        go_wp2
        obtain ⟨g0,g1,g2,gf⟩:=row3 HGG.out.1
        exact bodyPost_ret (v:=.tuple #[rlV 0 0 (.slice none 0 0),.int .i64 70]) (by simp [results,Tryz.results6,go_sem,g0,g1,g2]) rfl ⟨HQ2.out _ (fun h=>HNG.out h.1),HBF.out⟩
    · have hz1:¬ (i:Int) < (n:Int):=by omega
      have hie:i=n:=by omega
      have HN2:Hid (n1=n):=by show _=_; omega
      have hiN:N.take i=N:=List.take_of_length_le (by rw [HN1.out]; omega)
      have HQB:Hid (w.heap.size ≤ q6):=by have:=HQ6.out; show _ ≤ _; omega
      have hfe:N.flatten.length=T0:=by rw [← HT0.out,hiN]
      by_cases hov:1048576 < T0
      · have hT2:(1048576:Int) < (T0:Int):=by omega
        have HOV:Hid (¬ (n1=n∧N.flatten.length ≤ 1048576)):=by show ¬ _; rw [hfe]; omega
        clear hrl hr6 ho hR hb hT0 hvf hie hiN hfe
        obtain ⟨z0,z1,z2,zf⟩:=row3 HR6w.out
        have HBF:Hid (Below w.heap.size w (((wr.setCell ⟨q6,0,none⟩ (.int .i64 0)).setCell ⟨q6,1,none⟩ (.int .i64 0)).setCell ⟨q6,2,none⟩ (.slice none 0 0))):=((HB.out.setCell (p:=⟨q6,0,none⟩) HQB.out _).setCell (p:=⟨q6,1,none⟩) HQB.out _).setCell (p:=⟨q6,2,none⟩) HQB.out _
        have HGG:Hid _:=heap_set3 wr q6 29 _ _ _ (.int .i64 0) (.int .i64 0) (.slice none 0 0) HR6w.out
        go_wp2
        obtain ⟨g0,g1,g2,gf⟩:=row3 HGG.out.1
        exact bodyPost_ret (v:=.tuple #[rlV 0 0 (.slice none 0 0),.int .i64 70]) (by simp [results,Tryz.results6,go_sem,g0,g1,g2]) rfl ⟨HQ2.out _ HOV.out,HBF.out⟩
      · have hT2:¬ ((1048576:Int) < (T0:Int)):=by omega
        have HFO:Hid (n1=n∧N.flatten.length ≤ 1048576):=⟨HN2.out,by rw [hfe]; omega⟩
        clear hfe
        rw [hiN] at HRW
        have hvf2:=HVF.out
        rw [hvf2] at HRL HO
        obtain ⟨c0,c1,c2,cf⟩:=row3 HRL.out
        obtain ⟨z0,z1,z2,zf⟩:=row3 HR6w.out
        have hne:q6 ≠ lb:=by have:=HLQ.out; omega
        have HBF:Hid (Below w.heap.size w (((wr.setCell ⟨q6,0,none⟩ (.int .i64 (E:Int))).setCell ⟨q6,1,none⟩ (.int .i64 (B:Int))).setCell ⟨q6,2,none⟩ (.slice VP i vc))):=((HB.out.setCell (p:=⟨q6,0,none⟩) HQB.out _).setCell (p:=⟨q6,1,none⟩) HQB.out _).setCell (p:=⟨q6,2,none⟩) HQB.out _
        have HGG:Hid _:=heap_set3 wr q6 29 _ _ _ (.int .i64 (E:Int)) (.int .i64 (B:Int)) (.slice VP i vc) HR6w.out
        have HRR:Hid (RL (fun k=>w.heap.size ≤ k) (((wr.setCell ⟨q6,0,none⟩ (.int .i64 (E:Int))).setCell ⟨q6,1,none⟩ (.int .i64 (B:Int))).setCell ⟨q6,2,none⟩ (.slice VP i vc)) (.slice VP i vc) N):=by
          have eO:∀ (Y:Nat) (cur:Array Value) (T:Nat),T ≠ 29 → wr.heap[Y]?=some (.cells cur T) → (((wr.setCell ⟨q6,0,none⟩ (.int .i64 (E:Int))).setCell ⟨q6,1,none⟩ (.int .i64 (B:Int))).setCell ⟨q6,2,none⟩ (.slice VP i vc)).heap[Y]?=wr.heap[Y]?:=fun Y cur T hT hY=>by
            have hn:Y ≠ q6:=fun e=>by subst e; rw [HR6w.out] at hY; simp at hY; exact hT hY.2.symm
            rw [heap_setCell_other _ _ _ _ hn,heap_setCell_other _ _ _ _ hn,heap_setCell_other _ _ _ _ hn]
          have hu:=HRW.out
          have hul:us.length=i:=by have:=HO.out.1; simpa using this
          refine ⟨us,DRow.of_own (own_typed HO.out (fun Y cur hY=>eO Y cur _ (by decide) hY)) hul.symm (fun q hq=>hq),OwnR.rows (fun q hq=>hq) (hu.imp (fun _ _ q=>own_typed q (fun Y cur hY=>eO Y cur 9 (by decide) hY)))⟩
        clear hrl hr6 ho hR hb hT0 hvf hvf2 hie hiN
        go_wp2
        obtain ⟨g0,g1,g2,gf⟩:=row3 HGG.out.1
        exact bodyPost_ret (v:=.tuple #[rlV E B (.slice VP i vc),.int .i64 0]) (by simp [results,Tryz.results6,go_sem,g0,g1,g2]) rfl ⟨HQ1.out _ _ HFO.out HRR.out,HBF.out⟩
end Go.Proofs.YtijambehfobopaaGreatDoor
