import Derived.Test.YtbgbmfmgdgalbaaGreatDoorM27
import Derived.Test.YtbgbmfmgdgalbaaGreatDoorM25
namespace Go.Proofs.YtbgbmfmgdgalbaaGreatDoor
open Go.RowKit Go.Maps
set_option linter.unusedVariables false
set_option linter.unusedSimpArgs false
abbrev FnV:=Nat × Array Value × Array Value
def fnV (x:FnV):Value:=.func (.func x.1) x.2.1 x.2.2
def stpE:ET FnV:=⟨fun x=>[fnV x],1,8,160,124,.nilFunc⟩
theorem stpOk:ETok stpE:=⟨Tryz.underlying124,by kernel_rfl,rfl,by decide,fun _=>rfl,fun x u hu=>by simp [stpE] at hu; subst hu; rfl⟩
def Cap (K:Nat → Prop) (B W:World) (g:Nat) (X:Gh) (F:Fs):Prop:=∀ k,K k → (∃ r,B.heap[k]?=some r∧W.heap[k]?=some r)∧¬ Own g F X k
theorem Cap.bt {K:Nat → Prop} {B W W':World} {g:Nat} {X X':Gh} {F F':Fs} (h:Cap K B W g X F) (b:Bt W g X F W' X' F'):Cap K B W' g X' F':=fun k hk=>by
  obtain ⟨⟨r,h1,h2⟩,h3⟩:=h k hk
  refine ⟨⟨r,h1,b.md.row h2 h3⟩,fun ho=>?_⟩
  rcases b.own k ho with q | q
  · exact h3 q
  · have:=row_lt h2; omega
theorem Cap.bel {K:Nat → Prop} {B W W':World} {g:Nat} {X:Gh} {F:Fs} (h:Cap K B W g X F) (hb:Below W.heap.size W W'):Cap K B W' g X F:=fun k hk=>by
  obtain ⟨⟨r,h1,h2⟩,h3⟩:=h k hk
  exact ⟨⟨r,h1,keep_row h2 hb⟩,h3⟩
theorem Cap.row {K:Nat → Prop} {B W:World} {g k:Nat} {X:Gh} {F:Fs} {o:Obj} (h:Cap K B W g X F) (hk:K k) (hr:B.heap[k]?=some o):W.heap[k]?=some o:=by
  obtain ⟨⟨r,h1,h2⟩,_⟩:=h k hk
  rw [h1] at hr; rw [h2,hr]
abbrev Sp:=FnV × (Fs → Fs × Int) × Nat
structure StepV (B:World) (K:Nat → Prop) (g:Nat) (s:Sp):Prop where
  ent:∀ args w,(callFunc s.1.1 args).run Tryz.prog w=.ok (.enter s.1.1 args) w
  inv:∀ F i,Inv F i → Inv (s.2.1 F).1 (i + s.2.2)
  run:∀ (w0 W:World) (X:Gh) (F:Fs) (i:Nat),St w0 W g X F i → Inv F i → i + s.2.2 + 1 ≤ 3298534883000 → Cap K B W g X F → Calls Tryz.prog s.1.1 (s.1.2.1 ++ s.1.2.2) W (CalP w0 W g X F (s.2.1 F).1 (i + s.2.2) (.int .i64 (s.2.1 F).2))
theorem StepV.more {B B':World} {K K':Nat → Prop} {g:Nat} {s:Sp} (h:StepV B K g s) (hK:∀ k,K k → K' k∧B'.heap[k]?=B.heap[k]?):StepV B' K' g s:=⟨h.ent,h.inv,fun w0 W X F i a b c d=>h.run w0 W X F i a b c (fun k hk=>by
  obtain ⟨h1,h2⟩:=hK k hk
  obtain ⟨⟨r,h3,h4⟩,h5⟩:=d k h1
  exact ⟨⟨r,by rw [← h2]; exact h3,h4⟩,h5⟩)⟩
def msL (L:List Sp):List (Fs → Fs × Int):=L.map (·.2.1)
def tot (L:List Sp):Nat:=(L.map (·.2.2)).sum
theorem tot_app (A B:List Sp):tot (A ++ B)=tot A + tot B:=by unfold tot; rw [List.map_append,List.sum_append]
theorem tot_one (s:Sp):tot [s]=s.2.2:=by unfold tot; simp
theorem tot_take (L:List Sp) (j:Nat) (h:j < L.length):tot (L.take (j + 1))=tot (L.take j) + (L[j]).2.2:=by
  rw [List.take_add_one,List.getElem?_eq_getElem h,tot_app]
  show _ + tot [L[j]]=_
  rw [tot_one]
theorem tot_le (L:List Sp) (j:Nat):tot (L.take j) ≤ tot L:=by
  have:tot L=tot (L.take j) + tot (L.drop j):=by rw [← tot_app,List.take_append_drop]
  omega
theorem msL_drop (L:List Sp) (j:Nat) (h:j < L.length):msL (L.drop j)=(L[j]).2.1 :: msL (L.drop (j + 1)):=by
  rw [List.drop_eq_getElem_cons h]; rfl
theorem stp_at (L:List Sp) (j:Nat) (h:j < L.length) (h':j < (L.map (·.1)).length):(L.map (·.1))[j]=(L[j]).1:=by rw [List.getElem_map]
set_option maxHeartbeats 4000000 in
set_option maxRecDepth 400000 in
theorem inOrder_any (L:List Sp) (B:World) (K:Nat → Prop) (g:Nat) (hL:∀ s ∈ L,StepV B K g s) (hn:L.length ≤ 1048576) (w0 W:World) (X:Gh) (F:Fs) (i:Nat) (h:St w0 W g X F i) (hI:Inv F i) (hi:i + tot L + 1 ≤ 3298534883000) (hC:Cap K B W g X F) (base:Nat) (v:Value) (hv:W.ownsRow base 160 1 v L.length (stpE.fl (L.map (·.1)))) (hvo:∀ k,v.ownBlock=some k → ¬ Own g F X k) :
    Calls Tryz.prog 62 #[v] W (CalP w0 W g X F (seqM (msL L) F).1 (i + tot L) (.int .i64 (seqM (msL L) F).2)):=by
  obtain ⟨P,c,rfl⟩:=own_form hv
  have HV:Hid (W.ownsRow base 160 1 (.slice P L.length c) L.length (stpE.fl (L.map (·.1)))):=hv
  have HVO:Hid _:=hvo
  have HL:Hid _:=hL
  have HC:Hid (Cap K B W g X F):=hC
  have HS:Hid _:=h
  have HI:Hid _:=hI
  have HB:Hid (i + tot L + 1 ≤ 3298534883000):=hi
  clear hv hvo hL hC h hI hi
  go_enter Tryz.func62,Tryz.ntmps62
  go_wp2
  go_loopw [8] (fun ci wr=>∃ j:Nat,j ≤ L.length∧ci=.int .i64 (j:Int)∧∃ X' F',St w0 wr g X' F' (i + tot (L.take j))∧Inv F' (i + tot (L.take j))∧Bt W g X F wr X' F'∧seqM (msL L) F=seqM (msL (L.drop j)) F') (fun ci _=>L.length - (intOf ci).toNat)
  case atStart=>exact ⟨0,by omega,rfl,X,F,HS.out,HI.out,Bt.refl _ _ _ _,rfl⟩
  case round =>
    obtain ⟨j,hj,rfl,X',F',hs,hI',hb,he⟩:=hrel
    have HSJ:Hid _:=hs
    have HIJ:Hid _:=hI'
    have HBJ:Hid _:=hb
    have HEJ:Hid _:=he
    clear hs hI' hb he
    by_cases hlt:j < L.length
    · obtain ⟨r,o,c',hq,hcell⟩:=(KR.own (E:=stpE) (own_to HV.out (fun k hk=>HBJ.out.md.oth k (own_lt HV.out hk) (HVO.out k hk))) (by simp)).cell stpOk (j:=j) (by simpa using hlt)
      injection hq with hq1 hq3 hq2
      subst hq1
      have c0:wr.cell? ⟨r,o + j * 1,none⟩=some (fnV (L[j]).1):=by
        have:=hcell 0 (fnV (L.map (·.1))[j]) rfl
        rw [stp_at L j hlt] at this
        exact this
      rw [Nat.mul_one] at c0
      have hz0:(0:Int) ≤ (j:Int):=by omega
      have hz1:(j:Int) < (L.length:Int):=by omega
      have hiw:IntKind.i64.wrap ((j:Int) + 1)=(j:Int) + 1:=by rw [IntKind.wrap_i64] <;> omega
      have hsv:=HL.out L[j] (List.getElem_mem hlt)
      have htk:=tot_take L j hlt
      have hle:=tot_le L (j + 1)
      have hms:=msL_drop L j hlt
      have hbd:=HB.out
      have HQ:Hid (Calls Tryz.prog (L[j]).1.1 ((L[j]).1.2.1 ++ (L[j]).1.2.2) wr (CalP w0 wr g X' F' ((L[j]).2.1 F').1 (i + tot (L.take j) + (L[j]).2.2) (.int .i64 ((L[j]).2.1 F').2))):=hsv.run w0 wr X' F' _ HSJ.out HIJ.out (by omega) (Cap.bt HC.out HBJ.out)
      have HNI:Hid (Inv ((L[j]).2.1 F').1 (i + tot (L.take (j + 1)))):=by
        have:=hsv.inv F' _ HIJ.out
        rw [Nat.add_assoc,← htk] at this
        exact this
      have heF:=hsv.ent
      have HTK:Hid (i + tot (L.take j) + (L[j]).2.2=i + tot (L.take (j + 1))):=by show _=_; omega
      have HLE:Hid (tot (L.take (j + 1)) ≤ tot L):=hle
      have HMS:Hid (msL (L.drop j)=(L[j]).2.1 :: msL (L.drop (j + 1))):=hms
      clear hsv hms hcell hq3 hq2 htk hle hbd
      generalize L[j]=s at *
      obtain ⟨⟨D,pre,free⟩,m,n⟩:=s
      unfold fnV at c0
      simp only at c0 heF HQ HNI HTK HMS
      obtain ⟨F2,e2,hm⟩:∃ F2 e2,m F'=(F2,e2):=⟨_,_,rfl⟩
      rw [hm] at HQ HNI
      have HM:Hid (m F'=(F2,e2)):=hm
      simp only at HQ HNI
      clear hm
      go_wp2_with fail
      refine (show Calls _ _ _ _ _ from HQ.out).mono ?_
      rintro e w1 ⟨rfl,X2,hs2,hb2⟩
      have HS2:Hid (St w0 w1 g X2 F2 (i + tot (L.take (j + 1)))):=by have:=hs2; rw [HTK.out] at this; exact this
      have HB2:Hid (Bt W g X F w1 X2 F2):=HBJ.out.trans hb2
      clear hs2 hb2 c0
      by_cases h0:e2=0
      · subst h0
        have HE2:Hid (seqM (msL L) F=seqM (msL (L.drop (j + 1))) F2):=by
          show _=_
          rw [HEJ.out,HMS.out]
          show andM (m F') _=_
          rw [HM.out,andM_ok rfl]
        clear HQ HM
        go_wp2
        go_roundw
        case rel=>exact ⟨j + 1,hlt,by first | rfl | congr 1,X2,F2,HS2.out,HNI.out,HB2.out,HE2.out⟩
        case measure=>simp [intOf]; omega
      · have HE2:Hid (seqM (msL L) F=(F2,e2)):=by
          show _=_
          rw [HEJ.out,HMS.out]
          show andM (m F') _=_
          rw [HM.out,andM_no h0]
        have heb:(e2 == 0)=false:=beq_eq_false_iff_ne.mpr h0
        have hnb:(e2 != 0)=true:=by simp [bne,heb]
        clear HQ HM
        go_wp2
        go_returns
        rw [HE2.out]
        exact ⟨rfl,X2,HS2.out.more24 (by have:=HLE.out; omega),HB2.out⟩
    · have hjl:j=L.length:=by omega
      subst hjl
      have HE2:Hid (seqM (msL L) F=(F',0)):=by
        show _=_
        rw [HEJ.out,List.drop_length]; rfl
      go_wp2
      go_returns
      rw [HE2.out]
      exact ⟨rfl,X',by have:=HSJ.out; rw [List.take_length] at this; exact this,HBJ.out⟩
end Go.Proofs.YtbgbmfmgdgalbaaGreatDoor
namespace Go.Proofs.YtbgbmfmgdgalbaaGreatDoor
open Go.RowKit Go.Maps
set_option linter.unusedVariables false
set_option linter.unusedSimpArgs false
set_option maxHeartbeats 1000000 in
theorem polder_any (i:Nat) (h2:i ≤ 9) (w:World):Calls Tryz.prog 32 #[.int .i64 (i:Int)] w fun e w'=>e=.returned (.string (oldN i))∧w'=w:=by
  obtain ⟨dg,hdg⟩:∃ dg:ByteArray,dg=⟨#[UInt8.ofNat (48 + i)]⟩:=⟨_,rfl⟩
  have HQ:Hid _:=pdigits_small i h2 dg hdg w
  have HO:Hid ((⟨#[100,117,109,112,46,114,100,98,46]⟩:ByteArray) ++ ⟨#[UInt8.ofNat (48 + i)]⟩=oldN i):=rfl
  rw [← hdg] at HO
  have hds:dg.size=1:=by rw [hdg]; rfl
  have hsz:(⟨#[100,117,109,112,46,114,100,98,46]⟩:ByteArray).size + dg.size ≤ 9223372036854775807:=by rw [hds]; decide
  clear h2 hdg
  go_enter Tryz.func32,Tryz.ntmps32
  go_wp2_with fail
  refine (show Calls _ _ _ _ _ from HQ.out).mono ?_
  rintro e w1 ⟨rfl,rfl⟩
  clear HQ
  go_wp2
  go_returns
  exact ⟨by rw [← HO.out]; rfl,rfl⟩
def rdT (F:Fs) (n:ByteArray):Value:=if (readM F n).2=0 then .tuple #[.string (readM F n).1,.bool true,.int .i64 0] else if (readM F n).2=201 then .tuple #[.string ⟨#[]⟩,.bool false,.int .i64 0] else .tuple #[.string ⟨#[]⟩,.bool false,.int .i64 (readM F n).2]
set_option maxHeartbeats 2000000 in
theorem pread_any {w0 w:World} {g i:Nat} {X:Gh} {F:Fs} (h:St w0 w g X F i) (n:ByteArray) (hn:n.size ≤ 140737488355328):Calls Tryz.prog 31 #[ptr (some g),.string n] w fun e w'=>e=.returned (rdT F n)∧Below w.heap.size w w':=by
  have HQ:Hid _:=Read_any g X F n hn w h.fs
  obtain ⟨t,e1,hr⟩:∃ t e1,readM F n=(t,e1):=⟨_,_,rfl⟩
  unfold rdT
  rw [hr] at HQ ⊢
  simp only at HQ ⊢
  clear hr h hn
  unfold ptr at HQ ⊢
  by_cases h0:e1=0
  · subst h0
    rw [if_pos rfl]
    go_enter Tryz.func31,Tryz.ntmps31
    go_wp2_with fail
    refine (show Calls _ _ _ _ _ from HQ.out).mono ?_
    rintro e w1 ⟨rfl,hb⟩
    have HB:Hid _:=hb
    clear hb HQ
    go_wp2
    go_returns
    exact ⟨rfl,HB.out⟩
  · rw [if_neg h0]
    have heb:(e1 == 0)=false:=beq_eq_false_iff_ne.mpr h0
    by_cases h1:e1=201
    · subst h1
      rw [if_pos rfl]
      go_enter Tryz.func31,Tryz.ntmps31
      go_wp2_with fail
      refine (show Calls _ _ _ _ _ from HQ.out).mono ?_
      rintro e w1 ⟨rfl,hb⟩
      have HB:Hid _:=hb
      clear hb HQ
      go_wp2
      go_returns
      exact ⟨rfl,HB.out⟩
    · rw [if_neg h1]
      have heb1:(e1 == 201)=false:=beq_eq_false_iff_ne.mpr h1
      go_enter Tryz.func31,Tryz.ntmps31
      go_wp2_with fail
      refine (show Calls _ _ _ _ _ from HQ.out).mono ?_
      rintro e w1 ⟨rfl,hb⟩
      have HB:Hid _:=hb
      clear hb HQ
      go_wp2
      go_returns
      exact ⟨rfl,HB.out⟩
set_option maxHeartbeats 1000000 in
set_option maxRecDepth 100000 in
theorem pindex_any (v:Value) (l:List ByteArray) (n:ByteArray) (hl:l.length ≤ 1048576) (w:World) (h:KR psE w v l) :
    Calls Tryz.prog 162 #[v,.string n] w fun e w'=>Below w.heap.size w w'∧∃ r:Int,e=.returned (.int .i64 r)∧(0 ≤ r ↔ n ∈ l):=by
  obtain ⟨P,c,rfl⟩:=h.form
  have H:Hid (KR psE w (.slice P l.length c) l):=h
  clear h
  go_enter Tryz.func162,Tryz.ntmps162
  go_wp2
  go_loopw [8] (fun ci wr=>∃ i:Nat,i ≤ l.length∧ci=.int .i64 (i:Int)∧Below w.heap.size w wr∧∀ t (h:t < l.length),t < i → n ≠ l[t]) (fun ci _=>l.length - (intOf ci).toNat)
  case atStart=>exact ⟨0,by omega,rfl,Below.refl _ _,fun t _ h=>by omega⟩
  case round =>
    obtain ⟨i,hi,rfl,hb,hall⟩:=hrel
    have HBR:Hid (Below w.heap.size w wr):=hb
    have HALL:Hid _:=hall
    by_cases hlt:i < l.length
    · obtain ⟨E,o,c',he,hcell⟩:=(H.out.on hb).cell psOk hlt
      injection he with he1 _ he2
      subst he1
      have x0:wr.cell? ⟨E,o + i * 1,none⟩=some (.string l[i]):=hcell 0 _ rfl
      rw [Nat.mul_one] at x0
      have hz0:(0:Int) ≤ (i:Int):=by omega
      have hz1:(i:Int) < (l.length:Int):=by omega
      have hiw:IntKind.i64.wrap ((i:Int) + 1)=(i:Int) + 1:=by rw [IntKind.wrap_i64] <;> omega
      have HMM:Hid (l[i] ∈ l):=List.getElem_mem hlt
      clear hb hall hcell he2
      by_cases heq:n=l[i]
      · have hs:(n.toList == l[i].toList)=true:=str_same (by rw [← heq])
        have HE:Hid (n=l[i]):=heq
        clear heq
        obtain ⟨y,hy⟩:∃ y,l[i]=y:=⟨_,rfl⟩
        rw [hy] at x0 hs HE HMM
        clear hy
        go_wp2
        go_returns
        exact ⟨HBR.out,_,rfl,fun _=>by rw [HE.out]; exact HMM.out,fun _=>by omega⟩
      · have hs:(n.toList == l[i].toList)=false:=str_other (fun e=>heq (by cases n with | mk a=>cases hq:l[i] with | mk b=>rw [hq] at e; exact congrArg _ (Array.toList_inj.1 e)))
        have HNE:Hid (n ≠ l[i]):=heq
        clear heq
        have HNN:Hid (∀ t (h:t < l.length),t < i + 1 → n ≠ l[t]):=fun t ht hti=>by
          rcases Nat.lt_or_eq_of_le (Nat.le_of_lt_succ hti) with h1 | h1
          · exact HALL.out t ht h1
          · subst h1; exact HNE.out
        clear HNE HMM
        obtain ⟨y,hy⟩:∃ y,l[i]=y:=⟨_,rfl⟩
        rw [hy] at x0 hs
        clear hy
        go_wp2
        go_roundw
        case rel=>exact ⟨i + 1,hlt,by first | rfl | congr 1,HBR.out,HNN.out⟩
        case measure=>simp [intOf]; omega
    · have he:i=l.length:=by omega
      subst he
      clear hb hall
      go_wp2
      go_returns
      exact ⟨HBR.out,_,rfl,fun h=>by omega,fun h=>by
        obtain ⟨t,ht,e⟩:=List.getElem_of_mem h
        exact absurd e.symm (HALL.out t ht ht)⟩
def memB (l:List ByteArray) (n:ByteArray):Bool:=l.any fun m=>decide (m=n)
theorem memB_iff {l:List ByteArray} {n:ByteArray}:memB l n=true ↔ n ∈ l:=by
  unfold memB
  rw [List.any_eq_true]
  constructor
  · rintro ⟨m,hm,h⟩
    have:m=n:=of_decide_eq_true h
    rw [← this]; exact hm
  · intro h; exact ⟨n,h,decide_eq_true rfl⟩
set_option maxHeartbeats 1000000 in
theorem pcontains_any (v:Value) (l:List ByteArray) (n:ByteArray) (hl:l.length ≤ 1048576) (w:World) (h:KR psE w v l) :
    Calls Tryz.prog 139 #[v,.string n] w fun e w'=>Below w.heap.size w w'∧e=.returned (.bool (memB l n)):=by
  have HQ:Hid _:=pindex_any v l n hl w h
  clear h hl
  go_enter Tryz.func139,Tryz.ntmps139
  go_wp2_with fail
  refine (show Calls _ _ _ _ _ from HQ.out).mono ?_
  rintro e w1 ⟨hb,r,rfl,hr⟩
  have HB:Hid _:=hb
  have HR:Hid _:=hr
  clear hb hr HQ
  by_cases h0:0 ≤ r
  · have HD:Hid (memB l n=true):=memB_iff.2 (HR.out.1 h0)
    go_wp2
    go_returns
    exact ⟨HB.out,by rw [HD.out]; rfl⟩
  · have HD:Hid (memB l n=false):=by
      show _=_
      rcases hb:memB l n with _ | _
      · rfl
      · exact absurd (HR.out.2 (memB_iff.1 hb)) h0
    go_wp2
    go_returns
    exact ⟨HB.out,by rw [HD.out]; show Ending.returned (.bool (decide (0 ≤ r)))=_; rw [decide_eq_false (by omega)]⟩
end Go.Proofs.YtbgbmfmgdgalbaaGreatDoor
