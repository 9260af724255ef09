import Derived.Test.YtjnbjfjoejfmpaaGreatDoorWAG
import Derived.Test.YtjnbjfjoejfmpaaGreatDoorWAA
import Derived.Test.YtjnbjfjoejfmpaaGreatDoorWAM
import Derived.Test.YtjnbjfjoejfmpaaGreatDoorWAN
import Derived.Test.YtjnbjfjoejfmpaaGreatDoorWAO
namespace Go.Proofs.YtjnbjfjoejfmpaaGreatDoor
set_option linter.unusedVariables false
theorem pk_drop {p:List UInt8} {l:List LM.Item} (h:LM.Pk p l) (j:Nat) (hj:j ≤ l.length):p.drop (6 + LM.bsum (l.take j))=LM.bodyOf (l.drop j) ++ [255]:=by
  have e:p.drop 6=LM.bodyOf l ++ [255]:=by
    rw [h.eq]; unfold LM.build
    rw [← List.append_assoc,List.drop_left' (by simp [LM.leB_len])]
  rw [← List.drop_drop,e,List.drop_append_of_le_length (by rw [LM.bodyOf_len]; exact LM.bsum_take_le l j),LM.body_drop]
theorem rdF_255 (s:List UInt8):LM.rdF 255 s=none:=by unfold LM.rdF; simp
theorem pk_at {p:List UInt8} {l:List LM.Item} (h:LM.Pk p l) (j:Nat) (hj:j < l.length) :
    LM.rdItem (p.drop (6 + LM.bsum (l.take j)))=some (l[j],LM.dsize l[j])∧6 + LM.bsum (l.take j) < p.length∧p[6 + LM.bsum (l.take j)]? ≠ some 255:=by
  have hd:=pk_drop h j (by omega)
  have hr:LM.rdItem (p.drop (6 + LM.bsum (l.take j)))=some (l[j],LM.dsize l[j]):=by
    rw [hd,List.drop_eq_getElem_cons hj,LM.bodyOf_cons]
    unfold LM.ent
    rw [List.append_assoc,List.append_assoc]
    exact LM.rd_data _ (h.wf _ (List.getElem_mem hj)) _
  refine ⟨hr,?_,fun hc=>?_⟩
  · rcases Nat.lt_or_ge (6 + LM.bsum (l.take j)) p.length with h1 | h1
    · exact h1
    · rw [List.drop_eq_nil_of_le h1] at hr; cases hr
  · obtain ⟨hlt,he⟩:=List.getElem?_eq_some_iff.1 hc
    rw [List.drop_eq_getElem_cons hlt,he,LM.rdItem_cons] at hr
    have e:(255:UInt8).toNat=255:=by decide
    rw [e,rdF_255] at hr
    cases hr
theorem pk_end {p:List UInt8} {l:List LM.Item} (h:LM.Pk p l):p[6 + LM.bsum l]?=some 255:=by
  have hd:=pk_drop h l.length (Nat.le_refl _)
  rw [List.take_length,List.drop_length] at hd
  have:=congrArg (fun x=>x[0]?) hd
  simp only [List.getElem?_drop,Nat.add_zero] at this
  rw [this]; rfl
end Go.Proofs.YtjnbjfjoejfmpaaGreatDoor
namespace Go.Proofs.YtjnbjfjoejfmpaaGreatDoor
open Go.RowKit
set_option linter.unusedVariables false
structure WI (p:List UInt8) (vs:List ByteArray):Prop where
  each:∀ v ∈ vs,v.size ≤ 524288
  len:vs.length ≤ 1048576
  pk:∀ l,LM.Pk p l → ∃ j,j ≤ l.length∧vs=valsOf (l.take j)
theorem vals_sum {l:List LM.Item} (h:∀ it ∈ l,LM.Wf it):sumV (valsOf l)=LM.bsum l:=by
  rw [← bsum_items (valsOf l) (fun v hv=>by
    obtain ⟨it,hit,rfl⟩:=List.mem_map.1 hv
    rw [strB_size]; exact LM.val_len it (h it hit)),vals_its l h]
theorem vals_take_sum {p:List UInt8} {l:List LM.Item} (h:LM.Pk p l) (j:Nat):sumV (valsOf (l.take j))=LM.bsum (l.take j):=vals_sum (fun it hit=>h.wf it (List.mem_of_mem_take hit))
theorem sumV_app (a b:List ByteArray):sumV (a ++ b)=sumV a + sumV b:=by
  induction a with
  | nil=>simp [sumV]
  | cons x a ih=>simp only [sumV,List.cons_append,List.map_cons,List.foldr_cons] at ih ⊢; omega
theorem sumV_one (a:List ByteArray) (x:ByteArray):sumV (a ++ [x])=sumV a + sizeV x:=by rw [sumV_app]; simp [sumV]
theorem sizeV_pos (x:ByteArray) (h:sizeV x ≠ 0):x.size ≤ 524288:=by
  unfold sizeV at h; split at h
  · exact absurd rfl h
  · omega
theorem sizeV_zero (x:ByteArray) (h:sizeV x=0):524288 < x.size:=by
  unfold sizeV at h; split at h
  · assumption
  · have:=LM.esz_pos (LM.itemOf x.data.toList); omega
theorem WI.nil (p:List UInt8):WI p []:=⟨by simp,by simp,fun l _=>⟨0,by omega,by simp [valsOf]⟩⟩
theorem WI.more {p:List UInt8} {vs:List ByteArray} (h:WI p vs) {l:List LM.Item} (hl:LM.Pk p l) (h255:p[6 + sumV vs]? ≠ some 255):∃ (j:Nat) (hj:j < l.length),vs=valsOf (l.take j)∧LM.rdItem (p.drop (6 + sumV vs))=some (l[j],LM.dsize l[j]):=by
  obtain ⟨j,hj,rfl⟩:=h.pk l hl
  rw [vals_take_sum hl] at h255 ⊢
  rcases Nat.lt_or_ge j l.length with hlt | hge
  · exact ⟨j,hlt,rfl,(pk_at hl j hlt).1⟩
  · rw [List.take_of_length_le hge] at h255
    exact absurd (pk_end hl) h255
theorem WI.step {p:List UInt8} {vs:List ByteArray} (h:WI p vs) {it:LM.Item} {n:Nat} (h255:p[6 + sumV vs]? ≠ some 255) (hr:LM.rdItem (p.drop (6 + sumV vs))=some (it,n)) (hz:sizeV (strB (LM.val it)) ≠ 0) (hn:vs.length + 1 ≤ 1048576):WI p (vs ++ [strB (LM.val it)]):=by
  refine ⟨fun v hv=>?_,by simpa using hn,fun l hl=>?_⟩
  · rcases List.mem_append.1 hv with hv | hv
    · exact h.each v hv
    · rw [List.mem_singleton.1 hv]; exact sizeV_pos _ hz
  · obtain ⟨j,hj,hv,hr'⟩:=h.more hl h255
    rw [hr] at hr'
    injection hr' with hr'
    injection hr' with h1 h2
    refine ⟨j + 1,hj,?_⟩
    rw [hv,h1]; unfold valsOf; rw [List.take_succ_eq_append_getElem hj,List.map_append]; rfl
theorem WI.no {p:List UInt8} {vs:List ByteArray} (h:WI p vs) (h255:p[6 + sumV vs]? ≠ some 255) (hr:LM.rdItem (p.drop (6 + sumV vs))=none):∀ l,¬ LM.Pk p l:=fun l hl=>by
  obtain ⟨j,hj,_,hr'⟩:=h.more hl h255
  rw [hr] at hr'; cases hr'
theorem WI.big {p:List UInt8} {vs:List ByteArray} (h:WI p vs) {it:LM.Item} {n:Nat} (h255:p[6 + sumV vs]? ≠ some 255) (hr:LM.rdItem (p.drop (6 + sumV vs))=some (it,n)) (hz:sizeV (strB (LM.val it))=0):∀ l,¬ LM.Pk p l:=fun l hl=>by
  obtain ⟨j,hj,_,hr'⟩:=h.more hl h255
  rw [hr] at hr'
  injection hr' with hr'
  injection hr' with h1 h2
  have:=sizeV_zero _ hz
  rw [strB_size,h1] at this
  have:=LM.val_len _ (hl.wf _ (List.getElem_mem hj))
  omega
theorem WI.many {p:List UInt8} {vs:List ByteArray} (h:WI p vs) (h255:p[6 + sumV vs]? ≠ some 255) (hn:1048576 < vs.length + 1):∀ l,¬ LM.Pk p l:=fun l hl=>by
  obtain ⟨j,hj,hv,_⟩:=h.more hl h255
  have h1:=hl.len
  rw [hv,vals_len,List.length_take] at hn
  omega
theorem WI.fin {p:List UInt8} {vs:List ByteArray} (h:WI p vs) (he:p.length ≤ 6 + sumV vs ∨ p[6 + sumV vs]?=some 255) {l:List LM.Item} (hl:LM.Pk p l):vs=valsOf l:=by
  obtain ⟨j,hj,rfl⟩:=h.pk l hl
  rw [vals_take_sum hl] at he
  rcases Nat.lt_or_ge j l.length with hlt | hge
  · obtain ⟨_,h1,h2⟩:=pk_at hl j hlt
    rcases he with he | he
    · omega
    · exact absurd he h2
  · rw [List.take_of_length_le hge]
theorem WI.build {p:List UInt8} {vs:List ByteArray} (h:WI p vs) (hs:p.length ≤ 1073741824) (he:LM.build (itsOf vs)=p):LM.Pk p (itsOf vs):=by
  refine ⟨fun it hit=>?_,by unfold itsOf; simpa using h.len,he.symm,hs⟩
  obtain ⟨v,hv,rfl⟩:=List.mem_map.1 hit
  exact LM.itemOf_wf _ (by rw [list_len]; exact h.each v hv)
theorem its_valsOf {p:List UInt8} {l:List LM.Item} (hl:LM.Pk p l):LM.build (itsOf (valsOf l))=p:=by
  unfold itsOf; rw [vals_its l hl.wf]; exact hl.eq.symm
end Go.Proofs.YtjnbjfjoejfmpaaGreatDoor
namespace Go.Proofs.YtjnbjfjoejfmpaaGreatDoor
open Go.RowKit
set_option linter.unusedVariables false
theorem wpList_append_one {w:World} {ops:Array Oper} {rest:List Oper} {o:Oper} {a:Act} {Q:Exit → Act → World → Prop} (hg:o.guard=none) (s x:Operand)
    (hop:o.op=Op.call { callee:=Callee.builtin Builtin.append,args:=#[s,x],argTypes:=#[22,22] })
    (base:Nat) (v:Value) (n:Nat) (xs:List Value) (hs:a.eval s=v) (hown:w.ownsRow base 9 1 v n xs) (ad:Addr) (c:Nat) (y:ByteArray) (hx:a.eval x=.slice (some ad) 1 c) (hy:w.cell? ad=some (.string y))
    (hl:(n + 1) * 16 ≤ 140737488351232) (hb:base ≤ w.heap.size)
    (h:∀ v' w',w'.ownsRow base 9 1 v' (n + 1) (xs ++ [.string y]) → w.grownBy w' v.ownBlock → wpList Tryz.prog ops Q rest (a.put o.dst v') w') :
    wpList Tryz.prog ops Q (o :: rest) a w:=by
  obtain ⟨i0,hi,hz0,hz1,hz2⟩:=info_parts info9
  refine wpList_append_own _ hg s x 22 hop base 9 i0 (.string ⟨#[]⟩) 1 16 Tryz.underlying22 hi hz0 hz1 hz2 rfl (by decide) v n xs hs hown ad 1 c [.string y] hx (by simp) ?_ ?_ ?_ ?_ hb ?_
  · intro j u hj
    match j,hj with
    | 0,hj=>simp at hj; subst hj; simpa [Addr.add] using hy
  · intro u hu; simp at hu; subst hu; rfl
  · unfold maxLen; omega
  · omega
  · intro v' w' h1 h2 h3; exact h v' w' h1 h2
def RWP (p:ByteArray) (b:Bool) (w0:World) (e:Ending) (W:World):Prop:=
  ((∃ l v,LM.Pk p.data.toList l∧e=.returned (.tuple #[v,.int .i64 0])∧W.ownsRow w0.heap.size 9 1 v l.length ((if b then (valsOf l).reverse else valsOf l).map Value.string)) ∨
    ((∀ l,¬ LM.Pk p.data.toList l)∧e=.returned (.tuple #[.slice none 0 0,.int .i64 60])))∧Below w0.heap.size w0 W
end Go.Proofs.YtjnbjfjoejfmpaaGreatDoor
namespace Go.Proofs.YtjnbjfjoejfmpaaGreatDoor
open Go.RowKit
set_option linter.unusedVariables false
theorem ext_end (p:ByteArray) (A:Nat):(p.extract A p.size).data.toList=p.data.toList.drop A:=by
  rw [ext_any]; exact List.take_of_length_le (by rw [List.length_drop,list_len]; exact Nat.le_refl _)
theorem own_srow {B:Nat} {W:World} {v:Value} {vs:List ByteArray} (h:W.ownsRow B 9 1 v vs.length (vs.map Value.string)):SRow W v vs:=srow_of_own h rfl
theorem rev_take (vs:List ByteArray) (k:Nat) (h:k < vs.length):(vs.drop k).reverse=(vs.drop (k + 1)).reverse ++ [vs[k]]:=by
  rw [List.drop_eq_getElem_cons h,List.reverse_cons]
set_option maxHeartbeats 8000000 in
set_option maxRecDepth 100000 in
theorem rWalk_any (p:ByteArray) (hp:p.size ≤ 140737488351232) (b:Bool) (w:World):Calls Tryz.prog 22 #[.string p,.bool b] w (RWP p b w):=by
  have HFS:Hid (∀ A:Nat,A < p.size → ∀ W,Calls Tryz.prog 48 #[.string (p.extract A p.size)] W fun e w'=>e=.returned (fstT (LM.rdItem (p.data.toList.drop A)))∧Below W.heap.size W w'):=fun A hA W=>by
    have:=rfst_any (p.extract A p.size) (by rw [ext_size _ _ _ (Nat.le_refl _)]; omega) (by rw [ext_size _ _ _ (Nat.le_refl _)]; omega) W
    rwa [ext_end] at this
  have HSZ:Hid (∀ (X:ByteArray) W,Calls Tryz.prog 49 #[.string X] W fun e w'=>e=.returned (.int .i64 (sizeV X:Nat))∧Below W.heap.size W w'):=fun X W=>rSize_any X W
  have HBU:Hid (∀ (vs:List ByteArray) (v:Value),vs.length ≤ 1048576 → (∀ x ∈ vs,x.size ≤ 524288) → ∀ W,SRow W v vs → Calls Tryz.prog 29 #[v] W fun e w'=>e=.returned (.string (strB (LM.build (itsOf vs))))∧Below W.heap.size W w'):=fun vs v h1 h2 W h3=>rBuild_any v vs (by omega) h2 W h3
  go_enter Tryz.func22,Tryz.ntmps22
  go_wp2
  go_loopw [6,7] (fun cl ca wr=>∃ (vs:List ByteArray) (A:Nat),6 + sumV vs=A∧A ≤ 140737488351232 + 1048576∧ca=.int .i64 (A:Int)∧WI p.data.toList vs∧wr.ownsRow w.heap.size 9 1 cl vs.length (vs.map Value.string)∧Below w.heap.size w wr) (fun _ ca _=>p.size - (intOf ca).toNat)
  case atStart=>exact ⟨[],6,rfl,by omega,rfl,WI.nil _,World.ownsRow_nil _ _ _ _,Below.refl _ _⟩
  case round =>
    obtain ⟨vs,A,hA,hAle,rfl,hwi,ho,hb⟩:=hrel
    obtain ⟨P,c,hcl⟩:=own_form ho
    subst hcl
    have HWI:Hid _:=hwi
    have HO:Hid (wr.ownsRow w.heap.size 9 1 _ vs.length (vs.map Value.string)):=ho
    have HB:Hid (Below w.heap.size w wr):=hb
    have HAA:Hid _:=hA
    have hvl:=hwi.len
    have HLEN:Hid _:=hwi.len
    clear hwi ho hb hA
    by_cases hgo:A < p.size∧p.data.toList[A]? ≠ some 255
    · obtain ⟨hlt,h255⟩:=hgo
      obtain ⟨cc,hcc⟩:∃ cc:Nat,p[A].toNat=cc:=⟨_,rfl⟩
      have hc255:cc ≠ 255:=fun e=>h255 (by rw [at_list p A hlt]; congr 1; exact UInt8.toNat_inj.1 (by rw [hcc,e]; rfl))
      have HX255:Hid (p.data.toList[6 + sumV vs]? ≠ some 255):=by rw [HAA.out]; exact h255
      have hcd:((cc:Int) == 255)=false:=by simp; omega
      have hz0:(0:Int) ≤ (A:Int):=by omega
      have hz1:(A:Int) < (p.size:Int):=by omega
      have hz2:(A:Int) ≤ (p.size:Int):=by omega
      have HF:=HFS.out A hlt
      have HFH:Hid _:=HF
      obtain ⟨S,hS⟩:∃ S,p.extract A p.size=S:=⟨_,rfl⟩
      have HRD:Hid (∃ r,LM.rdItem (p.data.toList.drop (6 + sumV vs))=r∧LM.rdItem (p.data.toList.drop A)=r):=⟨_,rfl,by rw [HAA.out]⟩
      obtain ⟨r,hr1,hr2⟩:=HRD.out
      have HR1:Hid _:=hr1
      rw [hr2] at HFH
      clear HF HRD hr1 hr2 h255 hc255
      cases r with
      | none =>
        have HNO:Hid (∀ l,¬ LM.Pk p.data.toList l):=HWI.out.no HX255.out HR1.out
        have HFE:Hid (∀ W,Calls Tryz.prog 48 #[.string S] W fun e w'=>e=.returned (.tuple #[.string ⟨#[]⟩,.bool false])∧Below W.heap.size W w'):=by rw [← hS]; exact HFH.out
        clear HFH
        go_wp2_with fail
        refine (show Calls _ _ _ _ _ from HFE.out _).mono ?_
        rintro e w1 ⟨rfl,hb1⟩
        have HB1:Hid (Below w.heap.size w w1):=bel_to HB.out hb1 (Nat.le_refl _)
        clear hb1
        go_wp2
        go_ret2
        exact ⟨Or.inr ⟨HNO.out,rfl⟩,HB1.out⟩
      | some x =>
        obtain ⟨it,nn⟩:=x
        have HFE:Hid (∀ W,Calls Tryz.prog 48 #[.string S] W fun e w'=>e=.returned (.tuple #[.string (strB (LM.val it)),.bool true])∧Below W.heap.size W w'):=by rw [← hS]; exact HFH.out
        clear HFH
        have HSS:Hid (∀ W,Calls Tryz.prog 49 #[.string (strB (LM.val it))] W fun e w'=>e=.returned (.int .i64 (sizeV (strB (LM.val it)):Nat))∧Below W.heap.size W w'):=fun W=>HSZ.out _ W
        have HST:Hid (sizeV (strB (LM.val it)) ≠ 0 → vs.length + 1 ≤ 1048576 → WI p.data.toList (vs ++ [strB (LM.val it)])):=fun h1 h2=>HWI.out.step HX255.out HR1.out h1 h2
        have HBG:Hid (sizeV (strB (LM.val it))=0 → ∀ l,¬ LM.Pk p.data.toList l):=HWI.out.big HX255.out HR1.out
        have HMN:Hid (1048576 < vs.length + 1 → ∀ l,¬ LM.Pk p.data.toList l):=HWI.out.many HX255.out
        have HS1:Hid (sumV (vs ++ [strB (LM.val it)])=sumV vs + sizeV (strB (LM.val it))):=sumV_one _ _
        have hzl:=sizeV_le (strB (LM.val it))
        generalize strB (LM.val it)=X at *
        generalize sizeV X=z at *
        clear HR1 HWI HSZ HFS
        go_wp2_with fail
        refine (show Calls _ _ _ _ _ from HFE.out _).mono ?_
        rintro e w1 ⟨rfl,hb1⟩
        have HB1:Hid (Below w.heap.size w w1):=bel_to HB.out hb1 (Nat.le_refl _)
        have HO1:Hid (w1.ownsRow w.heap.size 9 1 _ vs.length (vs.map Value.string)):=own_keep HO.out (fun k _ hk=>hb1.block k hk)
        clear hb1
        have HO2:Hid ((w1.alloc (.cells #[.string X] 9)).ownsRow w.heap.size 9 1 (.slice P vs.length c) vs.length (vs.map Value.string)):=own_keep HO1.out (fun k _ hk=>((Below.refl _ w1).alloc (Nat.le_refl _) _).block k hk)
        have HB2:Hid (Below w.heap.size w (w1.alloc (.cells #[.string X] 9))):=HB1.out.alloc HB1.out.size _
        have HC2:Hid ((w1.alloc (.cells #[.string X] 9)).cell? ⟨w1.heap.size,0,none⟩=some (.string X)):=(row1 (one_alloc w1 _)).1
        go_wp2_with (at_builtin; go_must (refine wpList_append_one rfl _ _ rfl w.heap.size _ _ _ rfl HO2.out ⟨w1.heap.size,0,none⟩ 1 X rfl HC2.out ?d1 ?d2 ?_))
        case d1=>omega
        case d2=>exact HB2.out.size
        intro v3 w3 ho3 hg3
        have HO3:Hid (w3.ownsRow w.heap.size 9 1 v3 (vs ++ [X]).length ((vs ++ [X]).map Value.string)):=by
          show World.ownsRow _ _ _ _ _ _ _
          rw [List.map_append,List.length_append]; exact ho3
        have HB3:Hid (Below w.heap.size w w3):=HB2.out.grown hg3 HB2.out.size (fun k hk=>(World.ownsRow.lt HO2.out k hk).1)
        clear ho3 hg3
        go_wp2_with fail
        refine (show Calls _ _ _ _ _ from HSS.out _).mono ?_
        rintro e w4 ⟨rfl,hb4⟩
        have HB4:Hid (Below w.heap.size w w4):=bel_to HB3.out hb4 (Nat.le_refl _)
        have HO4:Hid (w4.ownsRow w.heap.size 9 1 v3 (vs ++ [X]).length ((vs ++ [X]).map Value.string)):=own_keep HO3.out (fun k _ hk=>hb4.block k hk)
        clear hb4
        obtain ⟨A',hA'⟩:∃ A':Nat,A + z=A':=⟨_,rfl⟩
        have hAi:(A:Int) + (z:Int)=(A':Int):=by omega
        have HAB:Hid (A' ≤ 140737488351232 + 1048576):=by show A' ≤ _; omega
        go_wp2_with fail
        refine (show Calls _ _ _ _ _ from HSS.out _).mono ?_
        rintro e w5 ⟨rfl,hb5⟩
        have HB5:Hid (Below w.heap.size w w5):=bel_to HB4.out hb5 (Nat.le_refl _)
        have HO5:Hid (w5.ownsRow w.heap.size 9 1 v3 (vs ++ [X]).length ((vs ++ [X]).map Value.string)):=own_keep HO4.out (fun k _ hk=>hb5.block k hk)
        clear hb5
        obtain ⟨P3,c3,hv3⟩:=own_form HO5.out
        subst hv3
        obtain ⟨n3,hn3⟩:∃ n3,(vs ++ [X]).length=n3:=⟨_,rfl⟩
        have hn4:n3=vs.length + 1:=by rw [← hn3,List.length_append]; rfl
        rw [hn3]
        by_cases hz:z=0
        · have HNO:Hid (∀ l,¬ LM.Pk p.data.toList l):=HBG.out hz
          have hzz:((z:Int) == 0)=true:=by simpa using hz
          clear hn3 hn4 hz
          go_wp2
          go_ret2
          exact ⟨Or.inr ⟨HNO.out,rfl⟩,HB5.out⟩
        · have hzz:((z:Int) == 0)=false:=by simp; omega
          by_cases hmany:1048576 < vs.length + 1
          · have HNO:Hid (∀ l,¬ LM.Pk p.data.toList l):=HMN.out hmany
            have hmm:decide ((1048576:Int) < (n3:Int))=true:=by simp; omega
            clear hn3 hn4 hz
            go_wp2
            go_ret2
            exact ⟨Or.inr ⟨HNO.out,rfl⟩,HB5.out⟩
          · have HWI2:Hid _:=HST.out hz (by omega)
            have hmm:decide ((1048576:Int) < (n3:Int))=false:=by simp; omega
            have HN3:Hid _:=hn3
            have HME:Hid (p.size - A' < p.size - A):=by show _ < _; omega
            clear hn3 hn4 hz
            go_wp2
            go_roundw
            case rel =>
              refine ⟨vs ++ [X],A',?_,HAB.out,rfl,HWI2.out,?_,HB5.out⟩
              · rw [HS1.out,← hA',← HAA.out]; omega
              · have:=HO5.out; rw [HN3.out] at this ⊢; exact this
            case measure=>simpa [intOf] using HME.out
    · have HFIN:Hid (p.data.toList.length ≤ 6 + sumV vs ∨ p.data.toList[6 + sumV vs]?=some 255):=by
        rw [HAA.out,list_len]
        by_cases h1:A < p.size
        · right
          exact Classical.byContradiction fun hc=>hgo ⟨h1,hc⟩
        · left; omega
      have HEX:Hid (p.size ≤ A ∨ (∃ (h:A < p.size) (cc:Nat),p[A].toNat=cc∧((cc:Int) == 255)=true)):=by
        by_cases h1:A < p.size
        · right
          have hc:p.data.toList[A]?=some 255:=Classical.byContradiction fun hc=>hgo ⟨h1,hc⟩
          refine ⟨h1,255,?_,by decide⟩
          rw [at_list p A h1] at hc
          injection hc with hc
          rw [hc]; rfl
        · left; omega
      have HVS:Hid (SRow wr (.slice P vs.length c) vs):=own_srow HO.out
      have HEA:Hid _:=HWI.out.each
      have HB1:Hid (∀ W,SRow W (.slice P vs.length c) vs → Calls Tryz.prog 29 #[.slice P vs.length c] W fun e w'=>e=.returned (.string (strB (LM.build (itsOf vs))))∧Below W.heap.size W w'):=fun W hW=>HBU.out vs _ HLEN.out HEA.out W hW
      have HPK:Hid (∀ l,LM.Pk p.data.toList l → vs=valsOf l∧7 ≤ p.size∧p.size ≤ 1073741824∧LM.build (itsOf vs)=p.data.toList):=fun l hl=>by
        have e:=HWI.out.fin HFIN.out hl
        refine ⟨e,?_,by have:=hl.size; rwa [list_len] at this,by rw [e]; exact its_valsOf hl⟩
        have:=hl.reads.len7; rwa [list_len] at this
      have HKP:Hid (p.size ≤ 1073741824 → LM.build (itsOf vs)=p.data.toList → LM.Pk p.data.toList (itsOf vs)):=fun h1 h2=>HWI.out.build (by rw [list_len]; exact h1) h2
      have HVI:Hid (valsOf (itsOf vs)=vs):=its_vals vs
      have HIL:Hid ((itsOf vs).length=vs.length):=by show _=_; unfold itsOf; simp
      clear hgo HSZ HFS HWI HBU HFIN
      rcases HEX.out with hd | ⟨hlt,cc,hcc,h255⟩
      all_goals
        by_cases hsz:p.size < 7 ∨ 1073741824 < p.size
        · have HNO:Hid (∀ l,¬ LM.Pk p.data.toList l):=fun l hl=>by have:=HPK.out l hl; omega
          have HD:Hid (decide ((p.size:Int) < 7)=true ∨ (decide ((p.size:Int) < 7)=false∧decide ((1073741824:Int) < (p.size:Int))=true)):=by
            by_cases c7:p.size < 7
            · left; simp; omega
            · right; constructor <;> (simp; omega)
          clear hsz
          rcases HD.out with h7 | ⟨h7,h30⟩
          all_goals
            go_wp2
            go_ret2
            exact ⟨Or.inr ⟨HNO.out,rfl⟩,HB.out⟩
        · have h7:decide ((p.size:Int) < 7)=false:=by simp; omega
          have h30:decide ((1073741824:Int) < (p.size:Int))=false:=by simp; omega
          have hs30:p.size ≤ 1073741824:=by omega
          clear hsz
          go_wp2_with fail
          refine (show Calls _ _ _ _ _ from HB1.out _ HVS.out).mono ?_
          rintro e w2 ⟨rfl,hb2⟩
          have HB2:Hid (Below w.heap.size w w2):=bel_to HB.out hb2 (Nat.le_refl _)
          have HO2:Hid (w2.ownsRow w.heap.size 9 1 (.slice P vs.length c) vs.length (vs.map Value.string)):=own_keep HO.out (fun k _ hk=>hb2.block k hk)
          clear hb2
          by_cases heq:LM.build (itsOf vs)=p.data.toList
          · have HPP:Hid _:=HKP.out hs30 heq
            have hcmp:((strB (LM.build (itsOf vs))).toList == p.toList)=true:=str_same (by rw [strB_list]; exact heq)
            generalize strB (LM.build (itsOf vs))=BB at *
            clear heq
            cases b with
            | false =>
              go_wp2
              go_ret2
              refine ⟨Or.inl ⟨itsOf vs,_,HPP.out,rfl,?_⟩,HB2.out⟩
              rw [HIL.out,HVI.out]; exact HO2.out
            | true =>
              go_wp2
              have HSV:Hid (SRow w2 (.slice P vs.length c) vs):=own_srow HO2.out
              go_loopw [10,11] (fun co ci wr=>Below w2.heap.size w2 wr∧∃ k:Nat,k ≤ vs.length∧ci=.int .i64 ((k:Int) - 1)∧wr.ownsRow w2.heap.size 9 1 co (vs.length - k) ((vs.drop k).reverse.map Value.string)) (fun _ ci _=>(intOf ci + 1).toNat)
              case atStart =>
                refine ⟨Below.refl _ _,vs.length,Nat.le_refl _,rfl,?_⟩
                rw [List.drop_eq_nil_of_le (Nat.le_refl _),Nat.sub_self]
                exact World.ownsRow_nil _ _ _ _
              case round =>
                obtain ⟨hbr,k,hk,rfl,hor⟩:=hrel
                have HBR:Hid (Below w2.heap.size w2 wr):=hbr
                have HOR:Hid (wr.ownsRow w2.heap.size 9 1 u10 (vs.length - k) ((vs.drop k).reverse.map Value.string)):=hor
                clear hbr hor
                cases k with
                | zero =>
                  have hm1:((0:Nat):Int) - 1=-1:=by omega
                  rw [hm1]
                  go_wp2
                  go_ret2
                  refine ⟨Or.inl ⟨itsOf vs,_,HPP.out,rfl,?_⟩,bel_to HB2.out HBR.out (Nat.le_refl _)⟩
                  rw [HIL.out,HVI.out,if_pos rfl]
                  exact own_base HOR.out HB2.out.size
                | succ j =>
                  have hm1:((j + 1:Nat):Int) - 1=(j:Int):=by omega
                  rw [hm1]
                  have hj:j < vs.length:=hk
                  have HRT:Hid _:=rev_take vs j hj
                  obtain ⟨g,o,hP,hc1⟩:=(HSV.out.on HBR.out).cell j hj
                  subst hP
                  have hz0:(0:Int) ≤ (j:Int):=by omega
                  have hz1:(j:Int) < (vs.length:Int):=by omega
                  generalize vs[j]=X at *
                  have HO3:Hid ((wr.alloc (.cells #[.string X] 9)).ownsRow w2.heap.size 9 1 u10 (vs.length - (j + 1)) ((vs.drop (j + 1)).reverse.map Value.string)):=own_keep HOR.out (fun k _ hk=>((Below.refl _ wr).alloc (Nat.le_refl _) _).block k hk)
                  have HB3:Hid (Below w2.heap.size w2 (wr.alloc (.cells #[.string X] 9))):=HBR.out.alloc HBR.out.size _
                  have HC3:Hid ((wr.alloc (.cells #[.string X] 9)).cell? ⟨wr.heap.size,0,none⟩=some (.string X)):=(row1 (one_alloc wr _)).1
                  go_wp2_with (at_builtin; go_must (refine wpList_append_one rfl _ _ rfl w2.heap.size _ _ _ rfl HO3.out ⟨wr.heap.size,0,none⟩ 1 X rfl HC3.out ?e1 ?e2 ?_))
                  case e1=>omega
                  case e2=>exact HB3.out.size
                  intro v4 w4 ho4 hg4
                  have HO4:Hid (w4.ownsRow w2.heap.size 9 1 v4 (vs.length - j) ((vs.drop j).reverse.map Value.string)):=by
                    show World.ownsRow _ _ _ _ _ _ _
                    rw [HRT.out,List.map_append,show vs.length - j=vs.length - (j + 1) + 1 by omega]; simpa using ho4
                  have HB4:Hid (Below w2.heap.size w2 w4):=HB3.out.grown hg4 HB3.out.size (fun k hk=>(World.ownsRow.lt HO3.out k hk).1)
                  clear ho4 hg4
                  go_wp2
                  go_roundw
                  case rel=>exact ⟨HB4.out,j,by omega,rfl,HO4.out⟩
                  case measure=>simp [intOf]
          · have HNO:Hid (∀ l,¬ LM.Pk p.data.toList l):=fun l hl=>heq (HPK.out l hl).2.2.2
            have hcmp:((strB (LM.build (itsOf vs))).toList == p.toList)=false:=str_other (by rw [strB_list]; exact heq)
            generalize strB (LM.build (itsOf vs))=BB at *
            clear heq
            go_wp2
            go_ret2
            exact ⟨Or.inr ⟨HNO.out,rfl⟩,HB2.out⟩
end Go.Proofs.YtjnbjfjoejfmpaaGreatDoor
