import Derived.Test.YtbgbmfmgdgalbaaGreatDoorM12
import Derived.Test.YtbgbmfmgdgalbaaGreatDoorShC
import Derived.Shelf.Spec.SlicesInsert
import Derived.Lib.AppendZerosOnto
import Derived.ArgAppend
namespace Go.Proofs.YtbgbmfmgdgalbaaGreatDoor
open Go.RowKit Go.Maps
set_option linter.unusedVariables false
set_option linter.unusedSimpArgs false
theorem ModP.fresh {g:Nat} {X:Gh} {F:Fs} {w W w1:World} (h:FsP w g X F) (hm:ModP (Own g F X) W w1) {k:Nat} {o:Obj} (hk:W.heap[k]?=some o) (hw:w.heap.size ≤ k):w1.heap[k]?=some o:=
  hm.row hk (fun ho=>by have:=h.own_lt ho; omega)
theorem two_new {w:World} (a b:Obj):((w.alloc a).alloc b).heap[w.heap.size]?=some a∧((w.alloc a).alloc b).heap[w.heap.size + 1]?=some b∧((w.alloc a).alloc b).heap.size=w.heap.size + 2∧Below w.heap.size w ((w.alloc a).alloc b):=by
  have h1:(w.alloc a).heap.size=w.heap.size + 1:=by simp
  refine ⟨(heap_alloc_old _ _ (by omega)).trans (one_alloc _ _),?_,by simp,((Below.refl _ _).alloc (Nat.le_refl _) _).alloc (by simp) _⟩
  rw [← h1]; exact one_alloc _ _
set_option maxHeartbeats 2000000 in
set_option maxRecDepth 100000 in
theorem Remove_any (HGD:GoDownC) (g:Nat) (X:Gh) (F:Fs) (n:ByteArray) (hn:n.size ≤ 140737488355328) (w:World) (h:FsP w g X F) (hs:Sm F X) (hs1:F.steps < 3298534883328) (hpk:F.picks.length ≤ 17592186044416) :
    Calls Tryz.prog 73 #[ptr (some g),.string n] w fun e w'=>e=.returned (.int .i64 (removeM F n).2)∧∃ X',Bec w g X F w' X' (removeM F n).1:=by
  obtain ⟨R,hR⟩:∃ R,w.heap.size=R:=⟨_,rfl⟩
  obtain ⟨n1,n2,n3,n4⟩:=two_new (w:=w) (.cells #[.pointer (some ⟨g,0,none⟩)] 25) (.cells #[.string n] 9)
  obtain ⟨W0,hW0⟩:∃ W0,(w.alloc (.cells #[.pointer (some ⟨g,0,none⟩)] 25)).alloc (.cells #[.string n] 9)=W0:=⟨_,rfl⟩
  rw [hW0] at n1 n2 n3 n4
  rw [hR] at n1 n2 n3
  have hF0:FsP W0 g X F:=h.on n4
  have HFI:Hid _:=find0_any g X F n hn W0 hF0
  have HB0:Hid (Below w.heap.size w W0):=n4
  have HN1:Hid (W0.heap[R]?=some (.cells #[.pointer (some ⟨g,0,none⟩)] 25)):=n1
  have HN2:Hid (W0.heap[R + 1]?=some (.cells #[.string n] 9)):=n2
  have HRR:Hid (w.heap.size=R):=hR
  have c0:=cell1 n1
  have c1:=cell1 n2
  by_cases h0:hasM F n=0
  · obtain ⟨hd,hnm,hf⟩:=has_zero.1 h0
    obtain ⟨i,hi1,hi2,hi3,hl⟩:=h.named hf
    have hy:=fnd_yes (X:=X) (os:=[]) hd (by simpa using hnm) hf
    rw [hy,h0,hi2] at HFI
    have hxi:F.files[i]?=some F.files[i]:=List.getElem?_eq_getElem hi3
    have hck:COk (up1 F) ⟨n,⟨#[]⟩,-1⟩ i:=cok_remove (F:=up1 F) h.ok.dir hnm i
    have HST:Hid (∀ W b,Below w.heap.size w W → W.heap[R]?=some (.cells #[ptr (some g)] 25) → W.heap[R + 1]?=some (.cells #[.string n] 9) → R ≤ b → W.heap[b]?=some (.cells #[ptr (some (X.fb i))] 83) → Calls Tryz.prog 110 #[ptr (some g),.func (.func 115) #[] #[.pointer (some ⟨R,0,none⟩),.pointer (some ⟨R + 1,0,none⟩),.pointer (some ⟨b,0,none⟩)]] W fun e w'=>StepP g X F W (ChgF g X (up1 F) ⟨n,⟨#[]⟩,-1⟩ i) (fun _ w1 _ w'=>w'=w1) e w'):=fun W b hb r1 r2 rb r3=>step_any HGD g X F 115 eM_remove #[] _ _ W (h.on hb) hs hs1 hpk (fun w1 hm hF=>by
      refine Remove1_any g R (R + 1) b _ _ _ (X.fb i) n _ w1 (hm.fresh h r1 (by omega)) (hm.fresh h r2 (by omega)) (hm.fresh h r3 (by omega)) ?_
      exact changeF_any g X (up1 F) ⟨n,⟨#[]⟩,-1⟩ i F.files[i] w1 hF ⟨by show F.steps + 1 ≤ _; omega,hs.fi,hs.ch,hs.qs⟩ hck hxi (hF.fil i _ hl hxi) (fun j hj hne=>hF.inj j i hj hl hne))
    have HFN:Hid (∀ W w' e,Below w.heap.size w W → StepP g X F W (ChgF g X (up1 F) ⟨n,⟨#[]⟩,-1⟩ i) (fun _ w1 _ w'=>w'=w1) e w' → e=.returned (.int .i64 (removeM F n).2)∧∃ X',Bec w g X F w' X' (removeM F n).1):=fun W w' e hb hp=>by
      refine hp.fin hb (removeM F n) (fun a b=>?_) (fun a=>?_)
      · have hM:removeM F n=(changeM (up1 F) ⟨n,⟨#[]⟩,-1⟩,0):=by
          unfold removeM
          rw [if_pos h0]
          simp only []
          rw [if_pos a,b]
        rw [hM]
        exact ⟨rfl,fun w1 hm hF hpd=>hpd.bec hl (fun j=>Iff.rfl) hm⟩
      · unfold removeM
        rw [if_pos h0]
        simp only []
        rw [if_neg a]
    generalize X.fb i=bb at *
    clear h hs hs1 hpk hd hnm hf hi1 hi2 hi3 hl hy h0 n1 n2 n3 n4 hF0 hxi hck
    unfold ptr at HFI HST ⊢
    go_enter Tryz.func73,Tryz.ntmps73
    go_wp2_with fail
    refine (show Calls _ _ _ _ _ from HFI.out).mono ?_
    rintro e w1 ⟨rfl,hb1⟩
    have HB1:Hid (Below w.heap.size w w1):=bel_to HB0.out hb1 (Nat.le_refl _)
    have r1:=keep_row HN1.out hb1
    have r2:=keep_row HN2.out hb1
    obtain ⟨W2,hW2⟩:∃ W2,w1.alloc (.cells #[.pointer (some ⟨bb,0,none⟩)] 83)=W2:=⟨_,rfl⟩
    obtain ⟨b,hbb⟩:∃ b,w1.heap.size=b:=⟨_,rfl⟩
    have hb2:Below w1.heap.size w1 W2:=by rw [← hW2]; exact (Below.refl _ _).alloc (Nat.le_refl _) _
    have r3:W2.heap[b]?=some (.cells #[.pointer (some ⟨bb,0,none⟩)] 83):=by rw [← hW2,← hbb]; exact one_alloc _ _
    have HS2:Hid _:=HST.out W2 b (bel_to HB1.out hb2 (Nat.le_refl _)) (keep_row r1 hb2) (keep_row r2 hb2) (by have:=HB1.out.size; have:=HRR.out; omega) r3
    have HB2:Hid (Below w.heap.size w W2):=bel_to HB1.out hb2 (Nat.le_refl _)
    have d0:=cell1 (keep_row r1 hb2)
    clear hb1 r1 r2 r3 hb2 c0 c1 hW0
    go_wp2_with fail
    refine (show Calls _ _ _ _ _ from HS2.out).mono ?_
    rintro e w3 hp
    obtain ⟨he,hB⟩:=HFN.out W2 w3 e HB2.out hp
    have HBB:Hid _:=hB
    subst he
    clear hp hB
    go_wp2
    go_returns
    exact ⟨rfl,HBB.out⟩
  · have hno:=fnd_no (F:=F) (X:=X) (n:=n) (os:=[]) (fun hh=>h0 (has_zero.2 ⟨hh.1,by simpa using hh.2.1,hh.2.2⟩))
    rw [hno.1] at HFI
    have hM:removeM F n=(F,hasM F n):=by unfold removeM; rw [if_neg h0]
    rw [hM]
    have HFP:Hid (FsP W0 g X F):=hF0
    obtain ⟨er,her⟩:∃ er,hasM F n=er:=⟨_,rfl⟩
    rw [her] at HFI h0 ⊢
    have hne:(er == 0)=false:=by simpa using h0
    clear h hs hs1 hpk hno hM her n1 n2 n3 n4 hF0
    unfold ptr at HFI ⊢
    go_enter Tryz.func73,Tryz.ntmps73
    go_wp2_with fail
    refine (show Calls _ _ _ _ _ from HFI.out).mono ?_
    rintro e w1 ⟨rfl,hb1⟩
    have HB1:Hid (Below W0.heap.size W0 w1):=hb1
    clear hb1 hW0 c0 c1
    go_wp2
    go_returns
    refine ⟨rfl,X,?_⟩
    have hb4:Below w1.heap.size w1 (w1.alloc (.cells #[.pointer none] 83)):=(Below.refl _ _).alloc (Nat.le_refl _) _
    exact (Bec.refl ((HFP.out.on HB1.out).on hb4)).pre (bel_to (bel_to HB0.out HB1.out (Nat.le_refl _)) hb4 (Nat.le_refl _))
end Go.Proofs.YtbgbmfmgdgalbaaGreatDoor
namespace Go.Proofs.YtbgbmfmgdgalbaaGreatDoor
open Go.RowKit Go.Maps
set_option linter.unusedVariables false
set_option linter.unusedSimpArgs false
def agQ (q:Pq):Value:=.agg #[.int .i64 (q.s:Int),.bool q.c,meetV q]
def cmpQ (a b:Pq):Int:=if a.s ≠ b.s ∨ a.c=b.c then Lib.compareInt a.s b.s else if a.c then -1 else 1
set_option maxHeartbeats 1000000 in
theorem Crash1_any (q:Pq) (w:World):Calls Tryz.prog 44 #[agQ q] w fun e w'=>e=.returned (.bool q.c)∧Below w.heap.size w w':=by
  obtain ⟨W0,hW0⟩:∃ W0,w.alloc (.cells #[.int .i64 (q.s:Int),.bool q.c,meetV q] 91)=W0:=⟨_,rfl⟩
  obtain ⟨R,hR⟩:∃ R,w.heap.size=R:=⟨_,rfl⟩
  have hb0:Below R w W0:=by rw [← hW0]; exact (Below.refl _ _).alloc (by omega) _
  have hr0:W0.heap[R]?=some (.cells #[.int .i64 (q.s:Int),.bool q.c,meetV q] 91):=by rw [← hW0,← hR]; exact one_alloc _ _
  obtain ⟨r0,r1,r2,rf⟩:=row3 hr0
  have HB:Hid (Below R w W0):=hb0
  have HR:Hid (w.heap.size=R):=hR
  clear hb0 hr0
  unfold agQ
  go_enter Tryz.func44,Tryz.ntmps44
  go_upto_region 1 with fail
  go_wp2
  go_ret
  exact ⟨rfl,by rw [HR.out]; exact HB.out⟩
theorem cmp_lt (a b:Pq):cmpQ a b < 0 ↔ ltQ a b:=by
  unfold cmpQ ltQ Lib.compareInt
  rcases a with ⟨s,c,_⟩
  rcases b with ⟨t,d,_⟩
  by_cases h:s=t
  · subst h
    cases c <;> cases d <;> simp
  · simp [h]
    split
    · simp; omega
    · split <;> simp <;> omega
theorem cmp_eq (a b:Pq):cmpQ a b=0 ↔ (a.s=b.s∧a.c=b.c):=by
  unfold cmpQ Lib.compareInt
  rcases a with ⟨s,c,_⟩
  rcases b with ⟨t,d,_⟩
  by_cases h:s=t
  · subst h
    cases c <;> cases d <;> simp
  · simp [h]
    split
    · simp
    · split
      · simp
      · omega
set_option maxHeartbeats 2000000 in
theorem comparePlans_any (a b:Pq) (w:World):Calls Tryz.prog 80 #[agQ a,agQ b] w fun e w'=>e=.returned (.int .i64 (cmpQ a b))∧Below w.heap.size w w':=by
  obtain ⟨⟨h1,h2,h3,h4⟩,_⟩:_∧True:=⟨two_new (w:=w) (.cells #[.int .i64 (a.s:Int),.bool a.c,meetV a] 91) (.cells #[.int .i64 (b.s:Int),.bool b.c,meetV b] 91),trivial⟩
  obtain ⟨W0,hW0⟩:∃ W0,(w.alloc (.cells #[.int .i64 (a.s:Int),.bool a.c,meetV a] 91)).alloc (.cells #[.int .i64 (b.s:Int),.bool b.c,meetV b] 91)=W0:=⟨_,rfl⟩
  rw [hW0] at h1 h2 h3 h4
  obtain ⟨R,hR⟩:∃ R,w.heap.size=R:=⟨_,rfl⟩
  rw [hR] at h1 h2 h4
  obtain ⟨r0,r1,r2,rf⟩:=row3 h1
  obtain ⟨q0,q1,q2,qf⟩:=row3 h2
  have HB:Hid (Below R w W0):=h4
  have HR:Hid (w.heap.size=R):=hR
  have HC:Hid _:=Tryz.cmp_Compare_int (a.s:Int) (b.s:Int) W0
  have hcc:cmpQ a b=if a.s ≠ b.s ∨ a.c=b.c then Lib.compareInt a.s b.s else if a.c then -1 else 1:=rfl
  have HAL:(w.alloc (.cells #[.int .i64 (a.s:Int),.bool a.c,meetV a] 91)).heap.size=R + 1:=by rw [← hR]; simp
  clear h1 h2 h3 h4
  unfold agQ
  by_cases hs:a.s=b.s
  · rw [← hs] at q0 HC hcc hW0 ⊢
    have hss:(a.s ≠ a.s ∨ a.c=b.c) ↔ a.c=b.c:=⟨fun h=>h.elim (fun h=>absurd rfl h) id,Or.inr⟩
    simp only [hss] at hcc
    rw [hcc]
    generalize a.s=x at *
    generalize a.c=ac at *
    generalize b.c=bc at *
    clear hcc hss hs
    go_enter Tryz.func80,Tryz.ntmps80
    go_upto_region 1 with fail
    clear hW0 HAL hR
    cases ac <;> cases bc
    · go_wp2_with fail
      refine (show Calls _ _ _ _ _ from HC.out).mono ?_
      rintro e w1 ⟨rfl,rfl⟩
      go_wp2
      go_ret
      exact ⟨rfl,by rw [HR.out]; exact HB.out⟩
    · go_wp2
      go_ret
      exact ⟨rfl,by rw [HR.out]; exact HB.out⟩
    · go_wp2
      go_ret
      exact ⟨rfl,by rw [HR.out]; exact HB.out⟩
    · go_wp2_with fail
      refine (show Calls _ _ _ _ _ from HC.out).mono ?_
      rintro e w1 ⟨rfl,rfl⟩
      go_wp2
      go_ret
      exact ⟨rfl,by rw [HR.out]; exact HB.out⟩
  · rw [hcc,if_pos (Or.inl hs)]
    have hne:((a.s:Int) == (b.s:Int))=false:=by simp; omega
    have hne':¬ (a.s:Int)=(b.s:Int):=by omega
    clear hcc
    generalize a.c=ac at *
    generalize b.c=bc at *
    generalize a.s=x at *
    generalize b.s=y at *
    go_enter Tryz.func80,Tryz.ntmps80
    go_upto_region 1 with fail
    clear hW0 HAL hR
    go_wp2_with fail
    refine (show Calls _ _ _ _ _ from HC.out).mono ?_
    rintro e w1 ⟨rfl,rfl⟩
    go_wp2
    go_ret
    exact ⟨rfl,by rw [HR.out]; exact HB.out⟩
end Go.Proofs.YtbgbmfmgdgalbaaGreatDoor
namespace Go.Proofs.YtbgbmfmgdgalbaaGreatDoor
open Go.RowKit Go.Maps
set_option linter.unusedVariables false
set_option linter.unusedSimpArgs false
theorem PRow.kr {W:World} {v:Value} {l:List Pq} (h:PRow W v l):KR plnE W v l:=by
  rcases h with ⟨rfl,rfl⟩ | ⟨g,o,c,cur,rfl,hc,hs,_,_,h1⟩
  · exact KR.nil
  · refine Or.inr ⟨g,o * 3,c,rfl,fun j u hj=>?_⟩
    rw [cell_of_row _ _ _ _ _ _ hc]; exact h1 j u hj
theorem ltQ_trans {a b c:Pq} (h1:ltQ a b) (h2:ltQ b c):ltQ a c:=by
  unfold ltQ at *
  rcases h1 with h1 | ⟨h1,h3,h4⟩ <;> rcases h2 with h2 | ⟨h2,h5,h6⟩
  · omega
  · omega
  · omega
  · rw [h4] at h5; cases h5
theorem eM_cmp (args:Array Value) (w:World):(callFunc 80 args).run Tryz.prog w=.ok (.enter 80 args) w:=by kernel_rfl
structure Plc (qs:List Pq) (p:Pq) (i:Nat):Prop where
  le:i ≤ qs.length
  lo:∀ t (h:t < qs.length),t < i → ltQ qs[t] p
  hi:∀ t (h:t < qs.length),i ≤ t → ¬ ltQ qs[t] p
def BsP (w:World) (qs:List Pq) (p:Pq) (e:Ending) (w':World):Prop:=Below w.heap.size w w'∧∃ i b,Plc qs p i∧(b=true ↔ ∃ h:i < qs.length,qs[i].s=p.s∧qs[i].c=p.c)∧e=.returned (.tuple #[.int .i64 (i:Nat),.bool b])
set_option maxHeartbeats 2000000 in
set_option maxRecDepth 100000 in
theorem bsP_any (qs:List Pq) (hr:qs.Pairwise ltQ) (hl:qs.length ≤ 3298534883328) (p:Pq) (qv:Value) (w:World) (h:KR plnE w qv qs) :
    Calls Tryz.prog 79 #[qv,agQ p,.func (.func 80) #[] #[]] w fun e w'=>BsP w qs p e w':=by
  obtain ⟨W0,hW0⟩:∃ W0,w.alloc (.cells #[.int .i64 (p.s:Int),.bool p.c,meetV p] 91)=W0:=⟨_,rfl⟩
  obtain ⟨R,hR⟩:∃ R,w.heap.size=R:=⟨_,rfl⟩
  have hb0:Below R w W0:=by rw [← hW0]; exact (Below.refl _ _).alloc (by omega) _
  have hr0:W0.heap[R]?=some (.cells #[.int .i64 (p.s:Int),.bool p.c,meetV p] 91):=by rw [← hW0,← hR]; exact one_alloc _ _
  have hk0:KR plnE W0 qv qs:=h.on (by rw [hR]; exact hb0)
  obtain ⟨P,c,rfl⟩:=h.form
  have HK:Hid (KR plnE W0 (.slice P qs.length c) qs):=hk0
  have HR0:Hid (W0.heap[R]?=some (.cells #[.int .i64 (p.s:Int),.bool p.c,meetV p] 91)):=hr0
  have HB0:Hid (Below R w W0):=hb0
  have HR:Hid (w.heap.size=R):=hR
  have HRI:Hid (∀ t u (ht:t < qs.length) (hu:u < qs.length),t < u → ltQ qs[t] qs[u]):=fun t u ht hu h=>List.pairwise_iff_getElem.1 hr t u ht hu h
  have HCM:Hid (∀ m (hm:m < qs.length) W,Calls Tryz.prog 80 #[.agg #[.int .i64 (qs[m].s:Int),.bool qs[m].c,meetV qs[m]],.agg #[.int .i64 (p.s:Int),.bool p.c,meetV p]] W fun e w'=>e=.returned (.int .i64 (cmpQ qs[m] p))∧Below W.heap.size W w'):=fun m hm W=>comparePlans_any qs[m] p W
  have HEC:=eM_cmp
  clear h hk0 hr0 hb0 hr
  unfold agQ
  generalize meetV p=vp at *
  go_enter Tryz.func79,Tryz.ntmps79
  go_upto_region 1 with fail
  clear hW0
  go_wp2
  go_loopw [9,10] (fun ci cj wr=>Below W0.heap.size W0 wr∧∃ i j:Nat,i ≤ j∧j ≤ qs.length∧ci=.int .i64 (i:Int)∧cj=.int .i64 (j:Int)∧(∀ t (h:t < qs.length),t < i → ltQ qs[t] p)∧(∀ t (h:t < qs.length),j ≤ t → ¬ ltQ qs[t] p)) (fun ci cj _=>(intOf cj).toNat - (intOf ci).toNat)
  case atStart=>exact ⟨Below.refl _ _,0,qs.length,by omega,Nat.le_refl _,rfl,rfl,fun t h h0=>by omega,fun t h h0=>by omega⟩
  case round =>
    obtain ⟨hb,i,j,hij,hj,rfl,rfl,hlo,hhi⟩:=hrel
    have HB:Hid (Below W0.heap.size W0 wr):=hb
    have HLO:Hid _:=hlo
    have HHI:Hid _:=hhi
    clear hlo hhi
    have hrw:=row3_keep HR0.out hb
    obtain ⟨r0,r1,r2,rf⟩:=row3 hrw
    by_cases hlt:i < j
    · obtain ⟨m,hm⟩:∃ m:Nat,(i + j) / 2=m:=⟨_,rfl⟩
      have hml:m < qs.length:=by omega
      have hmi:i ≤ m:=by omega
      have hmj:m < j:=by omega
      obtain ⟨E,o,c',he,hcell⟩:=(HK.out.on hb).cell plnOk hml
      injection he with he1 _ he2
      subst he1
      have x0:wr.cell? ⟨E,o + m * 3,none⟩=some (.int .i64 (qs[m].s:Int)):=hcell 0 _ rfl
      have x1:wr.cell? ⟨E,o + m * 3 + 1,none⟩=some (.bool qs[m].c):=hcell 1 _ rfl
      have x2:wr.cell? ⟨E,o + m * 3 + 2,none⟩=some (meetV qs[m]):=hcell 2 _ rfl
      have HCMm:Hid _:=HCM.out m hml
      have HCN:Hid _:=cmp_lt qs[m] p
      have hz0:(0:Int) ≤ (m:Int):=by omega
      have hz1:(m:Int) < (qs.length:Int):=by omega
      have HLS:Hid (ltQ qs[m] p → ∀ t (h:t < qs.length),t < m + 1 → ltQ qs[t] p):=fun hl t h ht=>by
        rcases Nat.lt_or_eq_of_le (Nat.le_of_lt_succ ht) with h1 | h1
        · exact ltQ_trans (HRI.out t m h hml h1) hl
        · subst h1; exact hl
      have HGE:Hid (¬ ltQ qs[m] p → ∀ t (h:t < qs.length),m ≤ t → ¬ ltQ qs[t] p):=fun hl t h ht hq=>by
        rcases Nat.lt_or_eq_of_le ht with h1 | h1
        · exact hl (ltQ_trans (HRI.out m t hml h h1) hq)
        · subst h1; exact hl hq
      generalize qs[m]=Y at *
      generalize cmpQ Y p=z at *
      generalize meetV Y=vy at *
      generalize Y.s=ys at *
      generalize Y.c=yc at *
      clear hb hcell he2 rf hrw
      go_upto_region 5 with fail
      have hm':((i:Int) + (j:Int)) / 2=(m:Int):=by omega
      rw [hm']
      have d0:wr.drew.cell? ⟨R,0,none⟩=some (.int .i64 (p.s:Int)):=r0
      have d1:wr.drew.cell? ⟨R,1,none⟩=some (.bool p.c):=r1
      have d2:wr.drew.cell? ⟨R,2,none⟩=some vp:=r2
      have d3:wr.drew.cell? ⟨E,o + m * 3,none⟩=some (.int .i64 (ys:Int)):=x0
      have d4:wr.drew.cell? ⟨E,o + m * 3 + 1,none⟩=some (.bool yc):=x1
      have d5:wr.drew.cell? ⟨E,o + m * 3 + 2,none⟩=some vy:=x2
      clear r0 r1 r2 x0 x1 x2
      go_region_held3 (fun W:World=>W.cell? ⟨R,0,none⟩=some (.int .i64 (p.s:Int))∧W.cell? ⟨R,1,none⟩=some (.bool p.c)∧W.cell? ⟨R,2,none⟩=some vp∧W.cell? ⟨E,o + m * 3,none⟩=some (.int .i64 (ys:Int))∧W.cell? ⟨E,o + m * 3 + 1,none⟩=some (.bool yc)∧W.cell? ⟨E,o + m * 3 + 2,none⟩=some vy)
        (first | with_reducible exact ⟨d0,d1,d2,d3,d4,d5⟩ | with_reducible exact ⟨q0,q1,q2,q3,q4,q5⟩)
        (first
          | (go_at_call 80; refine (show Calls _ _ _ _ _ from HCMm.out _).mono ?_; rintro e w1 ⟨rfl,hb1⟩; have q0:=cell_on d0 hb1; have q1:=cell_on d1 hb1; have q2:=cell_on d2 hb1; have q3:=cell_on d3 hb1; have q4:=cell_on d4 hb1; have q5:=cell_on d5 hb1))
      have HB1:Hid (Below W0.heap.size W0 w1):=bel_to HB.out.drew hb1 (Nat.le_refl _)
      clear hb1 q0 q1 q2 q3 q4 q5 d0 d1 d2 d3 d4 d5
      by_cases hz:z < 0
      · have HL:Hid _:=HLS.out (HCN.out.1 hz)
        go_wp2
        go_roundw
        case rel=>exact ⟨HB1.out,m + 1,j,by omega,hj,by first | rfl | (congr 1; omega),rfl,HL.out,HHI.out⟩
        case measure=>simp [intOf]; omega
      · have HG:Hid _:=HGE.out (fun hq=>hz (HCN.out.2 hq))
        go_wp2
        go_roundw
        case rel=>exact ⟨HB1.out,i,m,hmi,by omega,rfl,by first | rfl | (congr 1; omega),HLO.out,HG.out⟩
        case measure=>simp [intOf]; omega
    · have hje:j=i:=by omega
      subst hje
      have HPL:Hid (Plc qs p j):=⟨hj,HLO.out,HHI.out⟩
      have HBT:Hid (∀ W,Below W0.heap.size W0 W → Below w.heap.size w W):=fun W hx=>by
        rw [HR.out]; exact HB0.out.trans (hx.mono (by rw [← HR.out]; exact HB0.out.size))
      by_cases hjn:j < qs.length
      · obtain ⟨E,o,c',he,hcell⟩:=(HK.out.on hb).cell plnOk hjn
        injection he with he1 _ he2
        subst he1
        have x0:wr.cell? ⟨E,o + j * 3,none⟩=some (.int .i64 (qs[j].s:Int)):=hcell 0 _ rfl
        have x1:wr.cell? ⟨E,o + j * 3 + 1,none⟩=some (.bool qs[j].c):=hcell 1 _ rfl
        have x2:wr.cell? ⟨E,o + j * 3 + 2,none⟩=some (meetV qs[j]):=hcell 2 _ rfl
        have HCMm:Hid _:=HCM.out j hjn
        have HCZ:Hid ((cmpQ qs[j] p == 0)=true ↔ ∃ h:j < qs.length,qs[j].s=p.s∧qs[j].c=p.c):=by
          rw [beq_iff_eq,cmp_eq]; exact ⟨fun h=>⟨hjn,h⟩,fun ⟨_,h⟩=>h⟩
        have hz0:(0:Int) ≤ (j:Int):=by omega
        have hz1:(j:Int) < (qs.length:Int):=by omega
        have hgm:∀ Y,qs[j]'hjn=Y → cmpQ qs[j] p=cmpQ Y p:=fun Y e=>by rw [e]
        clear hgm
        generalize hz:cmpQ qs[j] p=z at *
        clear hz
        generalize hvy:meetV qs[j]=vy at *
        clear hvy
        have HCZ':Hid ((z == 0)=true ↔ ∃ h:j < qs.length,qs[j].s=p.s∧qs[j].c=p.c):=HCZ
        clear HCZ
        obtain ⟨ys,hys⟩:∃ ys,qs[j].s=ys:=⟨_,rfl⟩
        obtain ⟨yc,hyc⟩:∃ yc,qs[j].c=yc:=⟨_,rfl⟩
        rw [hys] at x0
        rw [hyc] at x1
        rw [hys,hyc] at HCMm
        clear hys hyc
        clear hb hcell he2 rf hrw
        go_upto_region 8 with fail
        have d0:wr.drew.cell? ⟨R,0,none⟩=some (.int .i64 (p.s:Int)):=r0
        have d1:wr.drew.cell? ⟨R,1,none⟩=some (.bool p.c):=r1
        have d2:wr.drew.cell? ⟨R,2,none⟩=some vp:=r2
        have d3:wr.drew.cell? ⟨E,o + j * 3,none⟩=some (.int .i64 (ys:Int)):=x0
        have d4:wr.drew.cell? ⟨E,o + j * 3 + 1,none⟩=some (.bool yc):=x1
        have d5:wr.drew.cell? ⟨E,o + j * 3 + 2,none⟩=some vy:=x2
        clear r0 r1 r2 x0 x1 x2
        go_region_held3 (fun W:World=>W.cell? ⟨R,0,none⟩=some (.int .i64 (p.s:Int))∧W.cell? ⟨R,1,none⟩=some (.bool p.c)∧W.cell? ⟨R,2,none⟩=some vp∧W.cell? ⟨E,o + j * 3,none⟩=some (.int .i64 (ys:Int))∧W.cell? ⟨E,o + j * 3 + 1,none⟩=some (.bool yc)∧W.cell? ⟨E,o + j * 3 + 2,none⟩=some vy)
          (first | with_reducible exact ⟨d0,d1,d2,d3,d4,d5⟩ | with_reducible exact ⟨q0,q1,q2,q3,q4,q5⟩)
          (first
            | (go_at_call 80; refine (show Calls _ _ _ _ _ from HCMm.out _).mono ?_; rintro e w1 ⟨rfl,hb1⟩; have q0:=cell_on d0 hb1; have q1:=cell_on d1 hb1; have q2:=cell_on d2 hb1; have q3:=cell_on d3 hb1; have q4:=cell_on d4 hb1; have q5:=cell_on d5 hb1))
        have HB1:Hid (Below W0.heap.size W0 w1):=bel_to HB.out.drew hb1 (Nat.le_refl _)
        clear hb1 q0 q1 q2 q3 q4 q5 d0 d1 d2 d3 d4 d5
        go_wp2
        go_returns
        exact ⟨HBT.out _ HB1.out,j,z == 0,HPL.out,HCZ'.out,rfl⟩
      · have HNO:Hid ((false=true) ↔ ∃ h:j < qs.length,qs[j].s=p.s∧qs[j].c=p.c):=⟨fun h=>(by cases h),fun ⟨h,_⟩=>absurd h hjn⟩
        have hz1:¬ (j:Int) < (qs.length:Int):=by omega
        clear hb rf hrw r0 r1 r2
        go_upto_region 8 with fail
        go_quiet (fail)
        go_wp2
        go_returns
        exact ⟨HBT.out _ (below_drewN HB.out _),j,false,HPL.out,HNO.out,rfl⟩
end Go.Proofs.YtbgbmfmgdgalbaaGreatDoor
namespace Go.Proofs.YtbgbmfmgdgalbaaGreatDoor
open Go.RowKit Go.Maps
set_option linter.unusedVariables false
set_option linter.unusedSimpArgs false
theorem spl_get (cur:Array Value) (o:Nat) (vs:List Value) (j:Nat) (h:o + vs.length ≤ cur.size):(spl cur o vs)[j]?=if j < o then cur[j]? else if j < o + vs.length then vs[j - o]? else cur[j]?:=by
  unfold spl
  have hl:(cur.toList.take o).length=o:=by simp; omega
  rw [List.getElem?_toArray,List.getElem?_append,hl]
  by_cases h1:j < o
  · rw [if_pos h1,if_pos h1,List.getElem?_take_of_lt h1,Array.getElem?_toList]
  · rw [if_neg h1,if_neg h1,List.getElem?_append]
    by_cases h2:j < o + vs.length
    · rw [if_pos (by omega),if_pos h2]
    · rw [if_neg (by omega),if_neg h2,List.getElem?_drop,Array.getElem?_toList]
      congr 1; omega
theorem flq_len (l:List Pq):(plnE.fl l).length=l.length * 3:=ET.fl_len plnOk l
theorem flq_one (l:List Pq):∀ u ∈ plnE.fl l,u.oneCell'=true:=ET.fl_one plnOk l
theorem flq_app (a b:List Pq):plnE.fl (a ++ b)=plnE.fl a ++ plnE.fl b:=ET.fl_app a b
theorem flq_take (l:List Pq) (i:Nat) (h:i ≤ l.length):plnE.fl (l.take i)=(plnE.fl l).take (i * 3):=by
  conv=>rhs; rw [← List.take_append_drop i l,flq_app]
  rw [List.take_left' (by rw [flq_len,List.length_take]; omega)]
theorem flq_drop (l:List Pq) (i:Nat) (h:i ≤ l.length):plnE.fl (l.drop i)=(plnE.fl l).drop (i * 3):=by
  conv=>rhs; rw [← List.take_append_drop i l,flq_app]
  rw [List.drop_left' (by rw [flq_len,List.length_take]; omega)]
structure PX (W:World) (E o c:Nat) (l:List Pq):Prop where
  row:∃ cur,W.heap[E]?=some (.cells cur 91)∧(o + c) * 3 ≤ cur.size∧∀ j u,(plnE.fl l)[j]?=some u → cur[o * 3 + j]?=some u
  le:l.length ≤ c
  max:o + c ≤ 9223372036854775807
theorem PX.prow {W:World} {E o c:Nat} {l:List Pq} (h:PX W E o c l):PRow W (.slice (some ⟨E,o * 3,none⟩) l.length c) l:=by
  obtain ⟨cur,h1,h2,h3⟩:=h.row
  exact Or.inr ⟨E,o,c,cur,rfl,h1,h2,h.le,h.max,h3⟩
theorem PRow.px {W:World} {v:Value} {l:List Pq} (h:PRow W v l):(v=.slice none 0 0∧l=[]) ∨ ∃ E o c,v=.slice (some ⟨E,o * 3,none⟩) l.length c∧PX W E o c l:=by
  rcases h with h | ⟨E,o,c,cur,rfl,h1,h2,h3,h4,h5⟩
  · exact Or.inl h
  · exact Or.inr ⟨E,o,c,rfl,⟨cur,h1,h2,h5⟩,h3,h4⟩
theorem own_prow {W:World} {b0 n:Nat} {v:Value} {l:List Pq} (h:W.ownsRow b0 91 3 v n (plnE.fl l)) (hn:n=l.length):PRow W v l:=by
  subst hn
  obtain ⟨_,⟨h1,h2⟩ | ⟨g,cap,cur,h1,hb,hg,q1,q2,q3,q4⟩⟩:=h
  · exact Or.inl ⟨h1,List.length_eq_zero_iff.1 h2⟩
  · refine Or.inr ⟨g,0,cap,cur,h1,hg,by omega,q1,by unfold maxLen at q2; omega,fun j u hj=>?_⟩
    have hl:=(List.getElem?_eq_some_iff.1 hj).1
    rw [flq_len] at hl
    rw [Nat.zero_mul,Nat.zero_add,← Array.getElem?_toList,← List.getElem?_take_of_lt hl,q4,hj]
theorem PX.lt {W:World} {E o c:Nat} {l:List Pq} (h:PX W E o c l):E < W.heap.size:=by obtain ⟨cur,h1,_⟩:=h.row; exact row_lt h1
theorem PX.same {W W':World} {E o c:Nat} {l:List Pq} (h:PX W E o c l) (hb:W'.heap[E]?=W.heap[E]?):PX W' E o c l:=by
  obtain ⟨cur,h1,h2⟩:=h.row
  exact ⟨⟨cur,hb.trans h1,h2⟩,h.le,h.max⟩
theorem PX.on {W W':World} {E o c:Nat} {l:List Pq} (h:PX W E o c l) (hb:Below W.heap.size W W'):PX W' E o c l:=h.same (hb.block E h.lt)
theorem PX.dropAt {w:World} {E o c:Nat} {l:List Pq} (h:PX w E o c l) (j:Nat) (hj:j ≤ l.length):∀ t v,(plnE.fl (l.drop j))[t]?=some v → w.cell? ((⟨E,o * 3 + j * 3,none⟩:Addr).add t)=some v:=fun t v ht=>by
  obtain ⟨cur,h1,h2,h3⟩:=h.row
  rw [flq_drop l j hj,List.getElem?_drop] at ht
  rw [Addr.add_lit,cell_of_row _ _ _ _ _ _ h1,Nat.add_assoc]
  exact h3 _ _ ht
theorem PX.takeAt {w:World} {E o c:Nat} {l:List Pq} (h:PX w E o c l) (i:Nat) (hi:i ≤ l.length):∀ t v,(plnE.fl (l.take i))[t]?=some v → w.cell? ((⟨E,o * 3,none⟩:Addr).add t)=some v:=fun t v ht=>by
  obtain ⟨cur,h1,h2,h3⟩:=h.row
  have hl:=(List.getElem?_eq_some_iff.1 ht).1
  rw [flq_len,List.length_take] at hl
  rw [flq_take l i hi,List.getElem?_take_of_lt (by omega)] at ht
  rw [Addr.add_lit,cell_of_row _ _ _ _ _ _ h1]
  exact h3 _ _ ht
theorem PX.ins {W:World} {E o c:Nat} {l:List Pq} {p:Pq} {cur:Array Value} {i:Nat} (hi:i ≤ l.length) (hr:l.length + 1 ≤ c) (hm:o + c ≤ 9223372036854775807) (hs:(o + c) * 3 ≤ cur.size) (h3:∀ j u,(plnE.fl l)[j]?=some u → cur[o * 3 + j]?=some u)
    (hW:W.heap[E]?=some (.cells (spl (spl cur (o * 3 + (i + 1) * 3) (plnE.fl (l.drop i))) (o * 3 + i * 3) (plnE.enc p)) 91)):PX W E o c (l.take i ++ p :: l.drop i):=by
  have hd:(plnE.fl (l.drop i)).length=(l.length - i) * 3:=by rw [flq_len,List.length_drop]
  have hp:(plnE.enc p).length=3:=rfl
  have hz1:(o * 3 + (i + 1) * 3) + (plnE.fl (l.drop i)).length ≤ cur.size:=by rw [hd]; omega
  have hs1:=spl_size cur _ _ hz1
  have hz2:(o * 3 + i * 3) + (plnE.enc p).length ≤ (spl cur (o * 3 + (i + 1) * 3) (plnE.fl (l.drop i))).size:=by rw [hs1,hp]; omega
  refine ⟨⟨_,hW,by rw [spl_size _ _ _ hz2,hs1]; exact hs,fun j u hj=>?_⟩,by simp; omega,hm⟩
  have hf:plnE.fl (l.take i ++ p :: l.drop i)=plnE.fl (l.take i) ++ (plnE.enc p ++ plnE.fl (l.drop i)):=by rw [flq_app,fl_cons]; rfl
  have ht:(plnE.fl (l.take i)).length=i * 3:=by rw [flq_len,List.length_take]; omega
  rw [hf,List.getElem?_append,ht] at hj
  rw [spl_get _ _ _ _ hz2,spl_get _ _ _ _ hz1,hp,hd]
  by_cases h1:j < i * 3
  · rw [if_pos h1,flq_take l i hi,List.getElem?_take_of_lt h1] at hj
    rw [if_pos (by omega),if_pos (by omega)]
    exact h3 j u hj
  · rw [if_neg h1,List.getElem?_append,hp] at hj
    by_cases h2:j - i * 3 < 3
    · rw [if_pos h2] at hj
      rw [if_neg (by omega),if_pos (by omega),← hj]
      congr 1; omega
    · rw [if_neg h2] at hj
      have hl:=(List.getElem?_eq_some_iff.1 hj).1
      rw [hd] at hl
      rw [if_neg (by omega),if_neg (by omega),if_neg (by omega),if_pos (by omega),← hj]
      congr 1; omega
theorem PX.fill {W:World} {E c:Nat} {l:List Pq} {p:Pq} {cur:Array Value} {i:Nat} (hi:i ≤ l.length) (hr:l.length + 1 ≤ c) (hm:c ≤ 9223372036854775807) (hs:c * 3 ≤ cur.size) (h3:∀ (j:Nat) (u:Value),(plnE.fl (l.take i))[j]?=some u → cur[j]?=some u)
    (hW:W.heap[E]?=some (.cells (spl (spl cur (i * 3) (plnE.enc p)) ((i + 1) * 3) (plnE.fl (l.drop i))) 91)):PX W E 0 c (l.take i ++ p :: l.drop i):=by
  have hd:(plnE.fl (l.drop i)).length=(l.length - i) * 3:=by rw [flq_len,List.length_drop]
  have hp:(plnE.enc p).length=3:=rfl
  have hz1:(i * 3) + (plnE.enc p).length ≤ cur.size:=by rw [hp]; omega
  have hs1:=spl_size cur _ _ hz1
  have hz2:((i + 1) * 3) + (plnE.fl (l.drop i)).length ≤ (spl cur (i * 3) (plnE.enc p)).size:=by rw [hs1,hd]; omega
  refine ⟨⟨_,hW,by rw [spl_size _ _ _ hz2,hs1]; omega,fun j u hj=>?_⟩,by simp; omega,by omega⟩
  have hf:plnE.fl (l.take i ++ p :: l.drop i)=plnE.fl (l.take i) ++ (plnE.enc p ++ plnE.fl (l.drop i)):=by rw [flq_app,fl_cons]; rfl
  have ht:(plnE.fl (l.take i)).length=i * 3:=by rw [flq_len,List.length_take]; omega
  rw [hf,List.getElem?_append,ht] at hj
  rw [spl_get _ _ _ _ hz2,spl_get _ _ _ _ hz1,hp,hd]
  by_cases h1:j < i * 3
  · rw [if_pos h1] at hj
    rw [if_pos (by omega),if_pos (by omega),Nat.zero_mul,Nat.zero_add]
    exact h3 j u hj
  · rw [if_neg h1,List.getElem?_append,hp] at hj
    by_cases h2:j - i * 3 < 3
    · rw [if_pos h2] at hj
      rw [if_pos (by omega),if_neg (by omega),if_pos (by omega),← hj]
      congr 1; omega
    · rw [if_neg h2] at hj
      have hl:=(List.getElem?_eq_some_iff.1 hj).1
      rw [hd] at hl
      rw [if_neg (by omega),if_pos (by omega),← hj]
      congr 1; omega
theorem infoP:(Tryz.prog.info? 91).map (fun i=>(i.zero,i.size,i.bytes))=some (some (.agg #[.int .i64 0,.bool false,.nilFunc]),3,24):=by kernel_rfl
theorem run_copyP (w:World) (ty:TypeId) (b o dLen dCap:Nat) (a:Addr) (sLen sCap:Nat) (cs:List Value) (hn:cs.length=Nat.min sLen dLen * 3)
    (hsrc:∀ j v,cs[j]?=some v → w.cell? (a.add j)=some v) (hc:∀ j,j < cs.length → (w.cell? ⟨b,o + j,none⟩).isSome=true) (hf:∀ j,j < cs.length → w.frozen? ⟨b,o + j,none⟩=false) (h1:∀ v ∈ cs,v.oneCell'=true) :
    (Builtin.copy_ #[72,72] ty #[.slice (some ⟨b,o,none⟩) dLen dCap,.slice (some a) sLen sCap]).run Tryz.prog w=.ok (goInt (Nat.min sLen dLen)) (w.setCells b o cs):=by
  obtain ⟨i0,hi,hz0,hz1,hz2⟩:=info_parts infoP
  have hl:=run_loadCells_list (P:=Tryz.prog) w a cs hsrc
  have hst:=run_storeCells_cells (P:=Tryz.prog) b o cs 0 w (by simpa using hc) (by simpa using hf) h1
  simp [Builtin.copy_,run_underlying Tryz.underlying72,Builtin.lenOf,Builtin.firstCells,sizeOf,typeInfo,hi,hz1,← hn,hl,hst]
theorem sizeQ (w:World):(Go.sizeOf 91).run Tryz.prog w=.ok 3 w:=by
  obtain ⟨i0,hi,hz0,hz1,hz2⟩:=info_parts infoP
  simp [sizeOf,typeInfo,hi,hz1,go_sem]
theorem shape_row {w:World} {g T:Nat} {cur:Array Value} (h:w.heap[g]?=some (.cells cur T)):w.shape? g=some (T,cur.size):=by
  unfold World.shape?; rw [h]
theorem overlapsP (w:World) (X E la ca lb cb:Nat) (p o:Nat) (hne:X ≠ E) (cx ce:Array Value) (hX:w.heap[X]?=some (.cells cx 91)) (hE:w.heap[E]?=some (.cells ce 91)) (hce:ce.size ≠ 0) :
    (callFunc 122 #[.slice (some ⟨X,p,none⟩) la ca,.slice (some ⟨E,o,none⟩) lb cb]).run Tryz.prog w=.ok (.value (.bool false)) w:=by
  rw [run_callFunc_extern Tryz.func122 (by kernel_rfl) (by kernel_rfl) (by kernel_rfl) (e:=Extern.SlicesOverlaps.overlaps #[72,72] #[4]) (by kernel_rfl),
    Lib.run_overlaps_apart w 72 4 91 Tryz.underlying72 3 sizeQ ⟨X,p,none⟩ ⟨E,o,none⟩ la ca lb cb hne 91 91 cx.size ce.size (shape_row hX) (shape_row hE) hce (frozen_of_row _ _ _ _ _ hX) (frozen_of_row _ _ _ _ _ hX)]
  rfl
def InsP (w:World) (qv:Value) (l':List Pq) (e:Ending) (w':World):Prop:=∃ v',e=.returned v'∧PRow w' v' l'∧ModP (fun k=>qv.ownBlock=some k) w w'∧∀ k,v'.ownBlock=some k → qv.ownBlock=some k ∨ w.heap.size ≤ k
theorem ModP.grownV {w w':World} {v:Value} (h:w.grownBy w' v.ownBlock):ModP (fun k=>v.ownBlock=some k) w w':=⟨h.os,h.tape,h.output,h.size,fun k hk hn=>h.block k hk (fun e=>hn e.symm)⟩
end Go.Proofs.YtbgbmfmgdgalbaaGreatDoor
namespace Go.Proofs.YtbgbmfmgdgalbaaGreatDoor
open Go.RowKit Go.Maps
set_option linter.unusedVariables false
set_option linter.unusedSimpArgs false
theorem fl_sing (p:Pq):plnE.fl [p]=plnE.enc p:=by rw [fl_cons]; rfl
theorem PX.prow' {W:World} {E o c n:Nat} {l:List Pq} (h:PX W E o c l) (hn:n=l.length):PRow W (.slice (some ⟨E,o * 3,none⟩) n c) l:=by subst hn; exact h.prow
theorem ins_len (l:List Pq) (p:Pq) (i:Nat) (hi:i ≤ l.length):(l.take i ++ p :: l.drop i).length=l.length + 1:=by simp; omega
theorem ins_all (l:List Pq) (p:Pq):l.take l.length ++ p :: l.drop l.length=l ++ [p]:=by simp
theorem encAt {w:World} {X:Nat} {p:Pq} (hX:w.heap[X]?=some (.cells #[.int .i64 (p.s:Int),.bool p.c,meetV p] 91)):∀ j u,(plnE.enc p)[j]?=some u → w.cell? ((⟨X,0,none⟩:Addr).add j)=some u:=fun j u hj=>by
  rw [Addr.add_lit,cell_of_row _ _ _ _ _ _ hX,Nat.zero_add]
  rw [← hj,← Array.getElem?_toList]; rfl
theorem enc_one (p:Pq):∀ u ∈ plnE.enc p,u.oneCell'=true:=plnOk.one p
set_option maxHeartbeats 4000000 in
set_option maxRecDepth 100000 in
theorem insE_nil (X vc:Nat) (p:Pq) (w:World) (hX:w.heap[X]?=some (.cells #[.int .i64 (p.s:Int),.bool p.c,meetV p] 91)) :
    Calls Tryz.prog 81 #[.slice none 0 0,.int .i64 0,.slice (some ⟨X,0,none⟩) 1 vc] w fun r w'=>InsP w (.slice none 0 0) [p] r w':=by
  obtain ⟨i0,hi0,hz0,hz1,hz2⟩:=info_parts infoP
  have HN:Hid _:=encAt hX
  have h1c:=enc_one p
  have hel:(plnE.enc p).length=1 * 3:=rfl
  have HFL:Hid (plnE.enc p=plnE.fl [p]):=(fl_sing p).symm
  clear hX
  generalize plnE.enc p=vs at *
  go_enter Tryz.func81,Tryz.ntmps81
  go_upto_region 7 with fail
  go_wp2_with (at_builtin; go_must (refine wpList_append_grows _ rfl _ _ 72 rfl 91 i0 (.agg #[.int .i64 0,.bool false,.nilFunc]) 3 24 Tryz.underlying72 hi0 hz0 hz1 hz2 rfl (by decide) none 0 0 [] rfl (fun _=>⟨rfl,rfl⟩) rfl (fun b h=>by cases h) ⟨X,0,none⟩ 1 vc vs rfl hel HN.out h1c (by omega) (by unfold maxLen; omega) (by omega) ?_))
  intro v' w1 hown hgr
  rw [HFL.out] at hown
  have HR:Hid (InsP w (.slice none 0 0) [p] (.returned v') w1):=⟨v',rfl,own_prow hown rfl,ModP.grownV (v:=.slice none 0 0) hgr,fun k hk=>Or.inr (by
    obtain ⟨_,⟨h1,h2⟩ | ⟨g,cap,cur,rfl,hb,_⟩⟩:=hown
    · rw [h1] at hk; cases hk
    · cases hk; exact hb)⟩
  clear hown hgr
  go_wp2
  go_returns
  exact HR.out
set_option maxHeartbeats 4000000 in
set_option maxRecDepth 100000 in
theorem insE_fit (X vc:Nat) (p:Pq) (E o c:Nat) (l:List Pq) (w:World) (hB:PX w E o c l) (hl:l.length ≤ 3298534883328) (hroom:l.length + 1 ≤ c) (hX:w.heap[X]?=some (.cells #[.int .i64 (p.s:Int),.bool p.c,meetV p] 91)) :
    Calls Tryz.prog 81 #[.slice (some ⟨E,o * 3,none⟩) l.length c,.int .i64 (l.length:Int),.slice (some ⟨X,0,none⟩) 1 vc] w fun r w'=>InsP w (.slice (some ⟨E,o * 3,none⟩) l.length c) (l ++ [p]) r w':=by
  obtain ⟨i0,hi0,hz0,hz1,hz2⟩:=info_parts infoP
  obtain ⟨cur,h1,h2,h3⟩:=hB.row
  have hmx:=hB.max
  have hel:(plnE.enc p).length=3:=rfl
  have HRUN:Hid (∀ ty,(Builtin.append_ #[72,72] ty #[.slice (some ⟨E,o * 3,none⟩) l.length c,.slice (some ⟨X,0,none⟩) 1 vc]).run Tryz.prog w=.ok (.slice (some ⟨E,o * 3,none⟩) (l.length + 1) c) (w.setCells E (o * 3 + l.length * 3) (plnE.enc p))):=fun ty=>by
    have:=run_append_room_cells (P:=Tryz.prog) w 72 ty 91 i0 Tryz.underlying72 hi0 E (o * 3) l.length c ⟨X,0,none⟩ 1 vc (plnE.enc p) (by rw [hz1]; rfl) (encAt hX) (enc_one p) hroom (fun j hj=>by rw [hz1,cell_of_row _ _ _ _ _ _ h1,Array.getElem?_eq_getElem (by rw [hel] at hj; omega)]; rfl) (fun j hj=>frozen_of_row _ _ _ _ _ h1)
    rw [hz1] at this; exact this
  have HR:Hid (InsP w (.slice (some ⟨E,o * 3,none⟩) l.length c) (l ++ [p]) (.returned (.slice (some ⟨E,o * 3,none⟩) (l.length + 1) c)) (w.setCells E (o * 3 + l.length * 3) (plnE.enc p))):=by
    have hh:=heap_cells E _ (plnE.enc p) (o * 3 + l.length * 3) w cur h1 (by rw [hel]; omega)
    have hP:=PX.ins (p:=p) (Nat.le_refl l.length) hroom hmx h2 h3 (W:=w.setCells E (o * 3 + l.length * 3) (plnE.enc p)) (E:=E) (by rw [List.drop_length,show plnE.fl []=[] from rfl,spl_nil]; exact hh)
    rw [ins_all] at hP
    exact ⟨_,rfl,hP.prow' (by simp),ModP.only (grown_only E _ _ w) rfl,fun k hk=>Or.inl hk⟩
  have hn1:¬ ((1:Int)=0):=by omega
  obtain ⟨n,hn⟩:∃ n,l.length=n:=⟨_,rfl⟩
  rw [hn] at HRUN HR hl hroom ⊢
  generalize plnE.enc p=vs at *
  clear h1 h2 h3 hB hX hi0 hz0 hz1 hz2 hel hn
  go_enter Tryz.func81,Tryz.ntmps81
  go_upto_region 7 with fail
  all_goals
    go_wp2_with (at_builtin; go_must (refine Lib.wpList_append_run _ rfl _ _ 72 72 rfl (.slice (some ⟨E,o * 3,none⟩) n c) (.slice (some ⟨X,0,none⟩) 1 vc) ?a1 ?a2 _ _ (HRUN.out _) ?_))
    case a1=>rfl
    case a2=>rfl
    go_wp2
    go_returns
    exact HR.out
set_option maxHeartbeats 4000000 in
set_option maxRecDepth 100000 in
theorem insE_grow (X vc:Nat) (p:Pq) (E o c:Nat) (l:List Pq) (w:World) (hB:PX w E o c l) (hl:l.length ≤ 3298534883328) (hroom:c < l.length + 1) (hX:w.heap[X]?=some (.cells #[.int .i64 (p.s:Int),.bool p.c,meetV p] 91)) :
    Calls Tryz.prog 81 #[.slice (some ⟨E,o * 3,none⟩) l.length c,.int .i64 (l.length:Int),.slice (some ⟨X,0,none⟩) 1 vc] w fun r w'=>InsP w (.slice (some ⟨E,o * 3,none⟩) l.length c) (l ++ [p]) r w':=by
  obtain ⟨i0,hi0,hz0,hz1,hz2⟩:=info_parts infoP
  have hmx:=hB.max
  have hle:=hB.le
  have HN:Hid _:=encAt hX
  have h1c:=enc_one p
  have hel:(plnE.enc p).length=1 * 3:=rfl
  have HFL:Hid (plnE.fl l ++ plnE.enc p=plnE.fl (l ++ [p])):=by show _=_; rw [flq_app,fl_sing]
  have HOL:Hid (∀ b,some (⟨E,o * 3,none⟩:Addr)=some b → ∀ j u,(plnE.fl l)[j]?=some u → w.cell? (b.add j)=some u):=fun b hb j u hj=>by
    cases hb
    have:=hB.takeAt l.length (Nat.le_refl _) j u (by rw [List.take_length]; exact hj)
    exact this
  have hfi:(plnE.fl l).length=l.length * 3:=flq_len l
  have HLN:Hid ((l ++ [p]).length=l.length + 1):=by show _=_; simp
  obtain ⟨n,hn⟩:∃ n,l.length=n:=⟨_,rfl⟩
  rw [hn] at hfi hl hroom HLN hle ⊢
  generalize plnE.enc p=vs at *
  generalize plnE.fl l=xs at *
  clear hX hB hn
  go_enter Tryz.func81,Tryz.ntmps81
  go_upto_region 7 with fail
  all_goals
    go_wp2_with (at_builtin; go_must (refine wpList_append_grows _ rfl _ _ 72 rfl 91 i0 (.agg #[.int .i64 0,.bool false,.nilFunc]) 3 24 Tryz.underlying72 hi0 hz0 hz1 hz2 rfl (by decide) (some ⟨E,o * 3,none⟩) n c xs rfl (fun h=>by cases h) hfi HOL.out ⟨X,0,none⟩ 1 vc vs rfl hel HN.out h1c (by omega) (by unfold maxLen; omega) (by omega) ?_))
    intro v' w1 hown hgr
    rw [HFL.out] at hown
    have HR:Hid (InsP w (.slice (some ⟨E,o * 3,none⟩) n c) (l ++ [p]) (.returned v') w1):=⟨v',rfl,own_prow hown HLN.out.symm,ModP.grownV (v:=.slice (some ⟨E,o * 3,none⟩) n c) (grown_wide hgr),fun k hk=>Or.inr (by
      obtain ⟨_,⟨h1,h2⟩ | ⟨g,cap,cur,rfl,hb,_⟩⟩:=hown
      · rw [h1] at hk; cases hk
      · cases hk; exact hb)⟩
    clear hown hgr
    go_wp2
    go_returns
    exact HR.out
end Go.Proofs.YtbgbmfmgdgalbaaGreatDoor
