import Derived.Test.YtbgbmfmgdgalbaaGreatDoorM07
import Derived.Test.YtbgbmfmgdgalbaaGreatDoorShC
namespace Go.Proofs.YtbgbmfmgdgalbaaGreatDoor
open Go.RowKit Go.Maps
set_option linter.unusedVariables false
set_option linter.unusedSimpArgs false
theorem eM_rename (args:Array Value) (w:World):(callFunc 163 args).run Tryz.prog w=.ok (.enter 163 args) w:=by kernel_rfl
theorem eM_remove (args:Array Value) (w:World):(callFunc 115 args).run Tryz.prog w=.ok (.enter 115 args) w:=by kernel_rfl
theorem cell1 {W:World} {b T:Nat} {v:Value} (h:W.heap[b]?=some (.cells #[v] T)):W.cell? ⟨b,0,none⟩=some v:=by rw [cell_of_row _ _ _ _ _ _ h]; rfl
set_option maxHeartbeats 1000000 in
theorem Rename1_any (g b0 b1 b2 b3 T0 T1 T2 T3 fbk:Nat) (n t:ByteArray) (Po:World → Prop) (w:World) (h0:w.heap[b0]?=some (.cells #[ptr (some g)] T0)) (h1:w.heap[b1]?=some (.cells #[.string n] T1)) (h2:w.heap[b2]?=some (.cells #[.string t] T2)) (h3:w.heap[b3]?=some (.cells #[ptr (some fbk)] T3)) (hc:Calls Tryz.prog 116 #[ptr (some g),.agg #[.string n,.string t,ptr (some fbk)]] w fun e w'=>e=.returned (.tuple #[])∧Po w') :
    Calls Tryz.prog 163 #[.pointer (some ⟨b0,0,none⟩),.pointer (some ⟨b1,0,none⟩),.pointer (some ⟨b2,0,none⟩),.pointer (some ⟨b3,0,none⟩)] w fun e w'=>e=.returned (.tuple #[])∧Po w':=by
  have c0:=cell1 h0
  have c1:=cell1 h1
  have c2:=cell1 h2
  have c3:=cell1 h3
  have HC:Hid _:=hc
  clear hc h0 h1 h2 h3
  unfold ptr at c0 c3 HC
  go_enter Tryz.func163,Tryz.ntmps163
  go_wp2_with fail
  refine (show Calls _ _ _ _ _ from HC.out).mono ?_
  rintro e w1 ⟨rfl,hp⟩
  go_wp2
  go_end0
  exact ⟨rfl,hp⟩
set_option maxHeartbeats 1000000 in
theorem Remove1_any (g b0 b1 b2 T0 T1 T2 fbk:Nat) (n:ByteArray) (Po:World → Prop) (w:World) (h0:w.heap[b0]?=some (.cells #[ptr (some g)] T0)) (h1:w.heap[b1]?=some (.cells #[.string n] T1)) (h2:w.heap[b2]?=some (.cells #[ptr (some fbk)] T2)) (hc:Calls Tryz.prog 116 #[ptr (some g),.agg #[.string n,.string ⟨#[]⟩,ptr (some fbk)]] w fun e w'=>e=.returned (.tuple #[])∧Po w') :
    Calls Tryz.prog 115 #[.pointer (some ⟨b0,0,none⟩),.pointer (some ⟨b1,0,none⟩),.pointer (some ⟨b2,0,none⟩)] w fun e w'=>e=.returned (.tuple #[])∧Po w':=by
  have c0:=cell1 h0
  have c1:=cell1 h1
  have c2:=cell1 h2
  have HC:Hid _:=hc
  clear hc h0 h1 h2
  unfold ptr at c0 c2 HC
  go_enter Tryz.func115,Tryz.ntmps115
  go_wp2_with fail
  refine (show Calls _ _ _ _ _ from HC.out).mono ?_
  rintro e w1 ⟨rfl,hp⟩
  go_wp2
  go_end0
  exact ⟨rfl,hp⟩
def ChgF (g:Nat) (X:Gh) (F:Fs) (c:Ch) (i:Nat) (w w':World):Prop:=∃ cv',FsP w' g { X with cv:=cv',cf:=X.cf ++ [i] } (changeM F c)∧ModP (Own g F X) w w'∧∀ k,Own g (changeM F c) { X with cv:=cv',cf:=X.cf ++ [i] } k → Own g F X k ∨ k=X.fb i ∨ (X.pv i).ownBlock=some k ∨ w.heap.size ≤ k
theorem ChgF.bec {g:Nat} {X:Gh} {F F1:Fs} {c:Ch} {i:Nat} {W w1 w':World} (h:ChgF g X F1 c i w1 w') (hl:Live F X i) (hL:∀ j,Live F1 X j ↔ Live F X j) (hm:ModP (Own g F X) W w1):∃ X',Bec W g X F w' X' (changeM F1 c):=by
  obtain ⟨cv',h1,h2,h3⟩:=h
  have ho:∀ k,Own g F1 X k ↔ Own g F X k:=fun k=>by
    unfold Own
    constructor
    · rintro (h | h | h | ⟨j,hj,h⟩ | h | h)
      · exact Or.inl h
      · exact Or.inr (Or.inl h)
      · exact Or.inr (Or.inr (Or.inl h))
      · exact Or.inr (Or.inr (Or.inr (Or.inl ⟨j,(hL j).1 hj,h⟩)))
      · exact Or.inr (Or.inr (Or.inr (Or.inr (Or.inl h))))
      · exact Or.inr (Or.inr (Or.inr (Or.inr (Or.inr h))))
    · rintro (h | h | h | ⟨j,hj,h⟩ | h | h)
      · exact Or.inl h
      · exact Or.inr (Or.inl h)
      · exact Or.inr (Or.inr (Or.inl h))
      · exact Or.inr (Or.inr (Or.inr (Or.inl ⟨j,(hL j).2 hj,h⟩)))
      · exact Or.inr (Or.inr (Or.inr (Or.inr (Or.inl h))))
      · exact Or.inr (Or.inr (Or.inr (Or.inr (Or.inr h))))
  refine ⟨_,h1,hm.andThen h2 (fun j _ hj=>(ho j).1 hj),fun k hk=>?_,by simp,fun q hq=>Or.inl hq⟩
  rcases h3 k hk with h | h | h | h
  · exact Or.inl ((ho k).1 h)
  · exact Or.inl (by rw [h]; exact own_file hl)
  · exact Or.inl (Or.inr (Or.inr (Or.inr (Or.inl ⟨i,hl,Or.inr h⟩))))
  · exact Or.inr (Nat.le_trans hm.size h)
theorem cok_remove {F:Fs} (hd:DOk F.dir F.files.length) {n:ByteArray} (hn:namedM n=true) (i:Nat):COk F ⟨n,⟨#[]⟩,-1⟩ i:=
  ⟨Or.inl (show (-1:Int) < 0 by decide),hn,Or.inl rfl,fun h=>absurd rfl h,by
    have e:afterM F.dir ⟨n,⟨#[]⟩,-1⟩=boundM F.dir n (-1):=if_pos rfl
    rw [e]; exact hd.del n (by decide)⟩
theorem cok_rename {F:Fs} (hd:DOk F.dir F.files.length) {n t:ByteArray} (hn:namedM n=true) (ht:namedM t=true) {i:Nat} (hi:findM F.dir n=(i:Int)) (hl:i < F.files.length):COk F ⟨n,t,(i:Int)⟩ i:=by
  have h0:¬ t.size=0:=by have:=(named_size ht).1; omega
  refine ⟨Or.inr rfl,hn,Or.inr ht,fun _=>rfl,?_⟩
  have e:afterM F.dir ⟨n,t,(i:Int)⟩=boundM (boundM F.dir n (-1)) t (i:Int):=if_neg h0
  rw [e]
  obtain ⟨x,hx,e1,e2⟩:=findM_mem (d:=F.dir) (n:=n) (by omega)
  have hd1:=hd.del n (f:=-1) (by decide)
  refine hd1.put ht (by omega) (by omega) (fun y hy _ e3=>?_) (Or.inl ?_)
  · rw [bound_del (by decide)] at hy
    obtain ⟨hy1,hy2⟩:=List.mem_filter.1 hy
    have hne:y ≠ x:=fun e4=>by subst e4; simp [e1] at hy2
    exact pair_ne hd.uni hy1 hx hne (by omega)
  · rw [bound_del (by decide)]
    have h1:=hd.few
    have:(F.dir.filter fun x=>decide (x.1 ≠ n)).length < F.dir.length:=by
      have h2:=List.length_filter_lt_length_iff_exists (p:=fun x:Sl=>decide (x.1 ≠ n)) (l:=F.dir)
      exact h2.2 ⟨x,hx,by simp [e1]⟩
    omega
end Go.Proofs.YtbgbmfmgdgalbaaGreatDoor
namespace Go.Proofs.YtbgbmfmgdgalbaaGreatDoor
open Go.RowKit Go.Maps
set_option linter.unusedVariables false
set_option linter.unusedSimpArgs false
theorem ModP.fresh {g:Nat} {X:Gh} {F:Fs} {w W w1:World} (h:FsP w g X F) (hm:ModP (Own g F X) W w1) {k:Nat} {o:Obj} (hk:W.heap[k]?=some o) (hw:w.heap.size ≤ k):w1.heap[k]?=some o:=
  hm.row hk (fun ho=>by have:=h.own_lt ho; omega)
theorem two_new {w:World} (a b:Obj):((w.alloc a).alloc b).heap[w.heap.size]?=some a∧((w.alloc a).alloc b).heap[w.heap.size + 1]?=some b∧((w.alloc a).alloc b).heap.size=w.heap.size + 2∧Below w.heap.size w ((w.alloc a).alloc b):=by
  have h1:(w.alloc a).heap.size=w.heap.size + 1:=by simp
  refine ⟨(heap_alloc_old _ _ (by omega)).trans (one_alloc _ _),?_,by simp,((Below.refl _ _).alloc (Nat.le_refl _) _).alloc (by simp) _⟩
  rw [← h1]; exact one_alloc _ _
set_option maxHeartbeats 2000000 in
set_option maxRecDepth 100000 in
theorem Remove_any (HGD:GoDownC) (g:Nat) (X:Gh) (F:Fs) (n:ByteArray) (hn:n.size ≤ 140737488355328) (w:World) (h:FsP w g X F) (hs:Sm F X) (hs1:F.steps < 3298534883328) (hpk:F.picks.length ≤ 17592186044416) :
    Calls Tryz.prog 73 #[ptr (some g),.string n] w fun e w'=>e=.returned (.int .i64 (removeM F n).2)∧∃ X',Bec w g X F w' X' (removeM F n).1:=by
  obtain ⟨R,hR⟩:∃ R,w.heap.size=R:=⟨_,rfl⟩
  obtain ⟨n1,n2,n3,n4⟩:=two_new (w:=w) (.cells #[.pointer (some ⟨g,0,none⟩)] 25) (.cells #[.string n] 9)
  obtain ⟨W0,hW0⟩:∃ W0,(w.alloc (.cells #[.pointer (some ⟨g,0,none⟩)] 25)).alloc (.cells #[.string n] 9)=W0:=⟨_,rfl⟩
  rw [hW0] at n1 n2 n3 n4
  rw [hR] at n1 n2 n3
  have hF0:FsP W0 g X F:=h.on n4
  have HFI:Hid _:=find0_any g X F n hn W0 hF0
  have HB0:Hid (Below w.heap.size w W0):=n4
  have HN1:Hid (W0.heap[R]?=some (.cells #[.pointer (some ⟨g,0,none⟩)] 25)):=n1
  have HN2:Hid (W0.heap[R + 1]?=some (.cells #[.string n] 9)):=n2
  have HRR:Hid (w.heap.size=R):=hR
  have c0:=cell1 n1
  have c1:=cell1 n2
  by_cases h0:hasM F n=0
  · obtain ⟨hd,hnm,hf⟩:=has_zero.1 h0
    obtain ⟨i,hi1,hi2,hi3,hl⟩:=h.named hf
    have hy:=fnd_yes (X:=X) (os:=[]) hd (by simpa using hnm) hf
    rw [hy,h0,hi2] at HFI
    have hxi:F.files[i]?=some F.files[i]:=List.getElem?_eq_getElem hi3
    have hck:COk (up1 F) ⟨n,⟨#[]⟩,-1⟩ i:=cok_remove (F:=up1 F) h.ok.dir hnm i
    have HST:Hid (∀ W b,Below w.heap.size w W → W.heap[R]?=some (.cells #[ptr (some g)] 25) → W.heap[R + 1]?=some (.cells #[.string n] 9) → R ≤ b → W.heap[b]?=some (.cells #[ptr (some (X.fb i))] 83) → Calls Tryz.prog 110 #[ptr (some g),.func (.func 115) #[] #[.pointer (some ⟨R,0,none⟩),.pointer (some ⟨R + 1,0,none⟩),.pointer (some ⟨b,0,none⟩)]] W fun e w'=>StepP g X F W (ChgF g X (up1 F) ⟨n,⟨#[]⟩,-1⟩ i) (fun _ w1 _ w'=>w'=w1) e w'):=fun W b hb r1 r2 rb r3=>step_any HGD g X F 115 eM_remove #[] _ _ W (h.on hb) hs hs1 hpk (fun w1 hm hF=>by
      refine Remove1_any g R (R + 1) b _ _ _ (X.fb i) n _ w1 (hm.fresh h r1 (by omega)) (hm.fresh h r2 (by omega)) (hm.fresh h r3 (by omega)) ?_
      exact changeF_any g X (up1 F) ⟨n,⟨#[]⟩,-1⟩ i F.files[i] w1 hF ⟨by show F.steps + 1 ≤ _; omega,hs.fi,hs.ch,hs.qs⟩ hck hxi (hF.fil i _ hl hxi) (fun j hj hne=>hF.inj j i hj hl hne))
    have HFN:Hid (∀ W w' e,Below w.heap.size w W → StepP g X F W (ChgF g X (up1 F) ⟨n,⟨#[]⟩,-1⟩ i) (fun _ w1 _ w'=>w'=w1) e w' → e=.returned (.int .i64 (removeM F n).2)∧∃ X',Bec w g X F w' X' (removeM F n).1):=fun W w' e hb hp=>by
      refine hp.fin hb (removeM F n) (fun a b=>?_) (fun a=>?_)
      · have hM:removeM F n=(changeM (up1 F) ⟨n,⟨#[]⟩,-1⟩,0):=by
          unfold removeM
          rw [if_pos h0]
          simp only []
          rw [if_pos a,b]
        rw [hM]
        exact ⟨rfl,fun w1 hm hF hpd=>hpd.bec hl (fun j=>Iff.rfl) hm⟩
      · unfold removeM
        rw [if_pos h0]
        simp only []
        rw [if_neg a]
    generalize X.fb i=bb at *
    clear h hs hs1 hpk hd hnm hf hi1 hi2 hi3 hl hy h0 n1 n2 n3 n4 hF0 hxi hck
    unfold ptr at HFI HST ⊢
    go_enter Tryz.func73,Tryz.ntmps73
    go_wp2_with fail
    refine (show Calls _ _ _ _ _ from HFI.out).mono ?_
    rintro e w1 ⟨rfl,hb1⟩
    have HB1:Hid (Below w.heap.size w w1):=bel_to HB0.out hb1 (Nat.le_refl _)
    have r1:=keep_row HN1.out hb1
    have r2:=keep_row HN2.out hb1
    obtain ⟨W2,hW2⟩:∃ W2,w1.alloc (.cells #[.pointer (some ⟨bb,0,none⟩)] 83)=W2:=⟨_,rfl⟩
    obtain ⟨b,hbb⟩:∃ b,w1.heap.size=b:=⟨_,rfl⟩
    have hb2:Below w1.heap.size w1 W2:=by rw [← hW2]; exact (Below.refl _ _).alloc (Nat.le_refl _) _
    have r3:W2.heap[b]?=some (.cells #[.pointer (some ⟨bb,0,none⟩)] 83):=by rw [← hW2,← hbb]; exact one_alloc _ _
    have HS2:Hid _:=HST.out W2 b (bel_to HB1.out hb2 (Nat.le_refl _)) (keep_row r1 hb2) (keep_row r2 hb2) (by have:=HB1.out.size; have:=HRR.out; omega) r3
    have HB2:Hid (Below w.heap.size w W2):=bel_to HB1.out hb2 (Nat.le_refl _)
    have d0:=cell1 (keep_row r1 hb2)
    clear hb1 r1 r2 r3 hb2 c0 c1 hW0
    go_wp2_with fail
    refine (show Calls _ _ _ _ _ from HS2.out).mono ?_
    rintro e w3 hp
    obtain ⟨he,hB⟩:=HFN.out W2 w3 e HB2.out hp
    have HBB:Hid _:=hB
    subst he
    clear hp hB
    go_wp2
    go_returns
    exact ⟨rfl,HBB.out⟩
  · have hno:=fnd_no (F:=F) (X:=X) (n:=n) (os:=[]) (fun hh=>h0 (has_zero.2 ⟨hh.1,by simpa using hh.2.1,hh.2.2⟩))
    rw [hno.1] at HFI
    have hM:removeM F n=(F,hasM F n):=by unfold removeM; rw [if_neg h0]
    rw [hM]
    have HFP:Hid (FsP W0 g X F):=hF0
    obtain ⟨er,her⟩:∃ er,hasM F n=er:=⟨_,rfl⟩
    rw [her] at HFI h0 ⊢
    have hne:(er == 0)=false:=by simpa using h0
    clear h hs hs1 hpk hno hM her n1 n2 n3 n4 hF0
    unfold ptr at HFI ⊢
    go_enter Tryz.func73,Tryz.ntmps73
    go_wp2_with fail
    refine (show Calls _ _ _ _ _ from HFI.out).mono ?_
    rintro e w1 ⟨rfl,hb1⟩
    have HB1:Hid (Below W0.heap.size W0 w1):=hb1
    clear hb1 hW0 c0 c1
    go_wp2
    go_returns
    refine ⟨rfl,X,?_⟩
    have hb4:Below w1.heap.size w1 (w1.alloc (.cells #[.pointer none] 83)):=(Below.refl _ _).alloc (Nat.le_refl _) _
    exact (Bec.refl ((HFP.out.on HB1.out).on hb4)).pre (bel_to (bel_to HB0.out HB1.out (Nat.le_refl _)) hb4 (Nat.le_refl _))
end Go.Proofs.YtbgbmfmgdgalbaaGreatDoor
namespace Go.Proofs.YtbgbmfmgdgalbaaGreatDoor
open Go.RowKit Go.Maps
set_option linter.unusedVariables false
set_option linter.unusedSimpArgs false
def agQ (q:Pq):Value:=.agg #[.int .i64 (q.s:Int),.bool q.c,meetV q]
def cmpQ (a b:Pq):Int:=if a.s ≠ b.s ∨ a.c=b.c then Lib.compareInt a.s b.s else if a.c then -1 else 1
set_option maxHeartbeats 1000000 in
theorem Crash1_any (q:Pq) (w:World):Calls Tryz.prog 44 #[agQ q] w fun e w'=>e=.returned (.bool q.c)∧Below w.heap.size w w':=by
  obtain ⟨W0,hW0⟩:∃ W0,w.alloc (.cells #[.int .i64 (q.s:Int),.bool q.c,meetV q] 91)=W0:=⟨_,rfl⟩
  obtain ⟨R,hR⟩:∃ R,w.heap.size=R:=⟨_,rfl⟩
  have hb0:Below R w W0:=by rw [← hW0]; exact (Below.refl _ _).alloc (by omega) _
  have hr0:W0.heap[R]?=some (.cells #[.int .i64 (q.s:Int),.bool q.c,meetV q] 91):=by rw [← hW0,← hR]; exact one_alloc _ _
  obtain ⟨r0,r1,r2,rf⟩:=row3 hr0
  have HB:Hid (Below R w W0):=hb0
  have HR:Hid (w.heap.size=R):=hR
  clear hb0 hr0
  unfold agQ
  go_enter Tryz.func44,Tryz.ntmps44
  go_upto_region 1 with fail
  go_wp2
  go_ret
  exact ⟨rfl,by rw [HR.out]; exact HB.out⟩
theorem cmp_lt (a b:Pq):cmpQ a b < 0 ↔ ltQ a b:=by
  unfold cmpQ ltQ Lib.compareInt
  rcases a with ⟨s,c,_⟩
  rcases b with ⟨t,d,_⟩
  by_cases h:s=t
  · subst h
    cases c <;> cases d <;> simp
  · simp [h]
    split
    · simp; omega
    · split <;> simp <;> omega
theorem cmp_eq (a b:Pq):cmpQ a b=0 ↔ (a.s=b.s∧a.c=b.c):=by
  unfold cmpQ Lib.compareInt
  rcases a with ⟨s,c,_⟩
  rcases b with ⟨t,d,_⟩
  by_cases h:s=t
  · subst h
    cases c <;> cases d <;> simp
  · simp [h]
    split
    · simp
    · split
      · simp
      · omega
set_option maxHeartbeats 2000000 in
theorem comparePlans_any (a b:Pq) (w:World):Calls Tryz.prog 80 #[agQ a,agQ b] w fun e w'=>e=.returned (.int .i64 (cmpQ a b))∧Below w.heap.size w w':=by
  obtain ⟨⟨h1,h2,h3,h4⟩,_⟩:_∧True:=⟨two_new (w:=w) (.cells #[.int .i64 (a.s:Int),.bool a.c,meetV a] 91) (.cells #[.int .i64 (b.s:Int),.bool b.c,meetV b] 91),trivial⟩
  obtain ⟨W0,hW0⟩:∃ W0,(w.alloc (.cells #[.int .i64 (a.s:Int),.bool a.c,meetV a] 91)).alloc (.cells #[.int .i64 (b.s:Int),.bool b.c,meetV b] 91)=W0:=⟨_,rfl⟩
  rw [hW0] at h1 h2 h3 h4
  obtain ⟨R,hR⟩:∃ R,w.heap.size=R:=⟨_,rfl⟩
  rw [hR] at h1 h2 h4
  obtain ⟨r0,r1,r2,rf⟩:=row3 h1
  obtain ⟨q0,q1,q2,qf⟩:=row3 h2
  have HB:Hid (Below R w W0):=h4
  have HR:Hid (w.heap.size=R):=hR
  have HC:Hid _:=Tryz.cmp_Compare_int (a.s:Int) (b.s:Int) W0
  have hcc:cmpQ a b=if a.s ≠ b.s ∨ a.c=b.c then Lib.compareInt a.s b.s else if a.c then -1 else 1:=rfl
  have HAL:(w.alloc (.cells #[.int .i64 (a.s:Int),.bool a.c,meetV a] 91)).heap.size=R + 1:=by rw [← hR]; simp
  clear h1 h2 h3 h4
  unfold agQ
  by_cases hs:a.s=b.s
  · rw [← hs] at q0 HC hcc hW0 ⊢
    have hss:(a.s ≠ a.s ∨ a.c=b.c) ↔ a.c=b.c:=⟨fun h=>h.elim (fun h=>absurd rfl h) id,Or.inr⟩
    simp only [hss] at hcc
    rw [hcc]
    generalize a.s=x at *
    generalize a.c=ac at *
    generalize b.c=bc at *
    clear hcc hss hs
    go_enter Tryz.func80,Tryz.ntmps80
    go_upto_region 1 with fail
    clear hW0 HAL hR
    cases ac <;> cases bc
    · go_wp2_with fail
      refine (show Calls _ _ _ _ _ from HC.out).mono ?_
      rintro e w1 ⟨rfl,rfl⟩
      go_wp2
      go_ret
      exact ⟨rfl,by rw [HR.out]; exact HB.out⟩
    · go_wp2
      go_ret
      exact ⟨rfl,by rw [HR.out]; exact HB.out⟩
    · go_wp2
      go_ret
      exact ⟨rfl,by rw [HR.out]; exact HB.out⟩
    · go_wp2_with fail
      refine (show Calls _ _ _ _ _ from HC.out).mono ?_
      rintro e w1 ⟨rfl,rfl⟩
      go_wp2
      go_ret
      exact ⟨rfl,by rw [HR.out]; exact HB.out⟩
  · rw [hcc,if_pos (Or.inl hs)]
    have hne:((a.s:Int) == (b.s:Int))=false:=by simp; omega
    have hne':¬ (a.s:Int)=(b.s:Int):=by omega
    clear hcc
    generalize a.c=ac at *
    generalize b.c=bc at *
    generalize a.s=x at *
    generalize b.s=y at *
    go_enter Tryz.func80,Tryz.ntmps80
    go_upto_region 1 with fail
    clear hW0 HAL hR
    go_wp2_with fail
    refine (show Calls _ _ _ _ _ from HC.out).mono ?_
    rintro e w1 ⟨rfl,rfl⟩
    go_wp2
    go_ret
    exact ⟨rfl,by rw [HR.out]; exact HB.out⟩
end Go.Proofs.YtbgbmfmgdgalbaaGreatDoor
namespace Go.Proofs.YtbgbmfmgdgalbaaGreatDoor
open Go.RowKit Go.Maps
set_option linter.unusedVariables false
set_option linter.unusedSimpArgs false
theorem PRow.kr {W:World} {v:Value} {l:List Pq} (h:PRow W v l):KR plnE W v l:=by
  rcases h with ⟨rfl,rfl⟩ | ⟨g,o,c,cur,rfl,hc,hs,_,_,h1⟩
  · exact KR.nil
  · refine Or.inr ⟨g,o * 3,c,rfl,fun j u hj=>?_⟩
    rw [cell_of_row _ _ _ _ _ _ hc]; exact h1 j u hj
theorem ltQ_trans {a b c:Pq} (h1:ltQ a b) (h2:ltQ b c):ltQ a c:=by
  unfold ltQ at *
  rcases h1 with h1 | ⟨h1,h3,h4⟩ <;> rcases h2 with h2 | ⟨h2,h5,h6⟩
  · omega
  · omega
  · omega
  · rw [h4] at h5; cases h5
theorem eM_cmp (args:Array Value) (w:World):(callFunc 80 args).run Tryz.prog w=.ok (.enter 80 args) w:=by kernel_rfl
structure Plc (qs:List Pq) (p:Pq) (i:Nat):Prop where
  le:i ≤ qs.length
  lo:∀ t (h:t < qs.length),t < i → ltQ qs[t] p
  hi:∀ t (h:t < qs.length),i ≤ t → ¬ ltQ qs[t] p
def BsP (w:World) (qs:List Pq) (p:Pq) (e:Ending) (w':World):Prop:=Below w.heap.size w w'∧∃ i b,Plc qs p i∧(b=true ↔ ∃ h:i < qs.length,qs[i].s=p.s∧qs[i].c=p.c)∧e=.returned (.tuple #[.int .i64 (i:Nat),.bool b])
set_option maxHeartbeats 2000000 in
set_option maxRecDepth 100000 in
theorem bsP_any (qs:List Pq) (hr:qs.Pairwise ltQ) (hl:qs.length ≤ 3298534883328) (p:Pq) (qv:Value) (w:World) (h:KR plnE w qv qs) :
    Calls Tryz.prog 79 #[qv,agQ p,.func (.func 80) #[] #[]] w fun e w'=>BsP w qs p e w':=by
  obtain ⟨W0,hW0⟩:∃ W0,w.alloc (.cells #[.int .i64 (p.s:Int),.bool p.c,meetV p] 91)=W0:=⟨_,rfl⟩
  obtain ⟨R,hR⟩:∃ R,w.heap.size=R:=⟨_,rfl⟩
  have hb0:Below R w W0:=by rw [← hW0]; exact (Below.refl _ _).alloc (by omega) _
  have hr0:W0.heap[R]?=some (.cells #[.int .i64 (p.s:Int),.bool p.c,meetV p] 91):=by rw [← hW0,← hR]; exact one_alloc _ _
  have hk0:KR plnE W0 qv qs:=h.on (by rw [hR]; exact hb0)
  obtain ⟨P,c,rfl⟩:=h.form
  have HK:Hid (KR plnE W0 (.slice P qs.length c) qs):=hk0
  have HR0:Hid (W0.heap[R]?=some (.cells #[.int .i64 (p.s:Int),.bool p.c,meetV p] 91)):=hr0
  have HB0:Hid (Below R w W0):=hb0
  have HR:Hid (w.heap.size=R):=hR
  have HRI:Hid (∀ t u (ht:t < qs.length) (hu:u < qs.length),t < u → ltQ qs[t] qs[u]):=fun t u ht hu h=>List.pairwise_iff_getElem.1 hr t u ht hu h
  have HCM:Hid (∀ m (hm:m < qs.length) W,Calls Tryz.prog 80 #[.agg #[.int .i64 (qs[m].s:Int),.bool qs[m].c,meetV qs[m]],.agg #[.int .i64 (p.s:Int),.bool p.c,meetV p]] W fun e w'=>e=.returned (.int .i64 (cmpQ qs[m] p))∧Below W.heap.size W w'):=fun m hm W=>comparePlans_any qs[m] p W
  have HEC:=eM_cmp
  clear h hk0 hr0 hb0 hr
  unfold agQ
  generalize meetV p=vp at *
  go_enter Tryz.func79,Tryz.ntmps79
  go_upto_region 1 with fail
  clear hW0
  go_wp2
  go_loopw [9,10] (fun ci cj wr=>Below W0.heap.size W0 wr∧∃ i j:Nat,i ≤ j∧j ≤ qs.length∧ci=.int .i64 (i:Int)∧cj=.int .i64 (j:Int)∧(∀ t (h:t < qs.length),t < i → ltQ qs[t] p)∧(∀ t (h:t < qs.length),j ≤ t → ¬ ltQ qs[t] p)) (fun ci cj _=>(intOf cj).toNat - (intOf ci).toNat)
  case atStart=>exact ⟨Below.refl _ _,0,qs.length,by omega,Nat.le_refl _,rfl,rfl,fun t h h0=>by omega,fun t h h0=>by omega⟩
  case round =>
    obtain ⟨hb,i,j,hij,hj,rfl,rfl,hlo,hhi⟩:=hrel
    have HB:Hid (Below W0.heap.size W0 wr):=hb
    have HLO:Hid _:=hlo
    have HHI:Hid _:=hhi
    clear hlo hhi
    have hrw:=row3_keep HR0.out hb
    obtain ⟨r0,r1,r2,rf⟩:=row3 hrw
    by_cases hlt:i < j
    · obtain ⟨m,hm⟩:∃ m:Nat,(i + j) / 2=m:=⟨_,rfl⟩
      have hml:m < qs.length:=by omega
      have hmi:i ≤ m:=by omega
      have hmj:m < j:=by omega
      obtain ⟨E,o,c',he,hcell⟩:=(HK.out.on hb).cell plnOk hml
      injection he with he1 _ he2
      subst he1
      have x0:wr.cell? ⟨E,o + m * 3,none⟩=some (.int .i64 (qs[m].s:Int)):=hcell 0 _ rfl
      have x1:wr.cell? ⟨E,o + m * 3 + 1,none⟩=some (.bool qs[m].c):=hcell 1 _ rfl
      have x2:wr.cell? ⟨E,o + m * 3 + 2,none⟩=some (meetV qs[m]):=hcell 2 _ rfl
      have HCMm:Hid _:=HCM.out m hml
      have HCN:Hid _:=cmp_lt qs[m] p
      have hz0:(0:Int) ≤ (m:Int):=by omega
      have hz1:(m:Int) < (qs.length:Int):=by omega
      have HLS:Hid (ltQ qs[m] p → ∀ t (h:t < qs.length),t < m + 1 → ltQ qs[t] p):=fun hl t h ht=>by
        rcases Nat.lt_or_eq_of_le (Nat.le_of_lt_succ ht) with h1 | h1
        · exact ltQ_trans (HRI.out t m h hml h1) hl
        · subst h1; exact hl
      have HGE:Hid (¬ ltQ qs[m] p → ∀ t (h:t < qs.length),m ≤ t → ¬ ltQ qs[t] p):=fun hl t h ht hq=>by
        rcases Nat.lt_or_eq_of_le ht with h1 | h1
        · exact hl (ltQ_trans (HRI.out m t hml h h1) hq)
        · subst h1; exact hl hq
      generalize qs[m]=Y at *
      generalize cmpQ Y p=z at *
      generalize meetV Y=vy at *
      generalize Y.s=ys at *
      generalize Y.c=yc at *
      clear hb hcell he2 rf hrw
      go_upto_region 5 with fail
      have hm':((i:Int) + (j:Int)) / 2=(m:Int):=by omega
      rw [hm']
      have d0:wr.drew.cell? ⟨R,0,none⟩=some (.int .i64 (p.s:Int)):=r0
      have d1:wr.drew.cell? ⟨R,1,none⟩=some (.bool p.c):=r1
      have d2:wr.drew.cell? ⟨R,2,none⟩=some vp:=r2
      have d3:wr.drew.cell? ⟨E,o + m * 3,none⟩=some (.int .i64 (ys:Int)):=x0
      have d4:wr.drew.cell? ⟨E,o + m * 3 + 1,none⟩=some (.bool yc):=x1
      have d5:wr.drew.cell? ⟨E,o + m * 3 + 2,none⟩=some vy:=x2
      clear r0 r1 r2 x0 x1 x2
      go_region_held3 (fun W:World=>W.cell? ⟨R,0,none⟩=some (.int .i64 (p.s:Int))∧W.cell? ⟨R,1,none⟩=some (.bool p.c)∧W.cell? ⟨R,2,none⟩=some vp∧W.cell? ⟨E,o + m * 3,none⟩=some (.int .i64 (ys:Int))∧W.cell? ⟨E,o + m * 3 + 1,none⟩=some (.bool yc)∧W.cell? ⟨E,o + m * 3 + 2,none⟩=some vy)
        (first | with_reducible exact ⟨d0,d1,d2,d3,d4,d5⟩ | with_reducible exact ⟨q0,q1,q2,q3,q4,q5⟩)
        (first
          | (go_at_call 80; refine (show Calls _ _ _ _ _ from HCMm.out _).mono ?_; rintro e w1 ⟨rfl,hb1⟩; have q0:=cell_on d0 hb1; have q1:=cell_on d1 hb1; have q2:=cell_on d2 hb1; have q3:=cell_on d3 hb1; have q4:=cell_on d4 hb1; have q5:=cell_on d5 hb1))
      have HB1:Hid (Below W0.heap.size W0 w1):=bel_to HB.out.drew hb1 (Nat.le_refl _)
      clear hb1 q0 q1 q2 q3 q4 q5 d0 d1 d2 d3 d4 d5
      by_cases hz:z < 0
      · have HL:Hid _:=HLS.out (HCN.out.1 hz)
        go_wp2
        go_roundw
        case rel=>exact ⟨HB1.out,m + 1,j,by omega,hj,by first | rfl | (congr 1; omega),rfl,HL.out,HHI.out⟩
        case measure=>simp [intOf]; omega
      · have HG:Hid _:=HGE.out (fun hq=>hz (HCN.out.2 hq))
        go_wp2
        go_roundw
        case rel=>exact ⟨HB1.out,i,m,hmi,by omega,rfl,by first | rfl | (congr 1; omega),HLO.out,HG.out⟩
        case measure=>simp [intOf]; omega
    · have hje:j=i:=by omega
      subst hje
      have HPL:Hid (Plc qs p j):=⟨hj,HLO.out,HHI.out⟩
      have HBT:Hid (∀ W,Below W0.heap.size W0 W → Below w.heap.size w W):=fun W hx=>by
        rw [HR.out]; exact HB0.out.trans (hx.mono (by rw [← HR.out]; exact HB0.out.size))
      by_cases hjn:j < qs.length
      · obtain ⟨E,o,c',he,hcell⟩:=(HK.out.on hb).cell plnOk hjn
        injection he with he1 _ he2
        subst he1
        have x0:wr.cell? ⟨E,o + j * 3,none⟩=some (.int .i64 (qs[j].s:Int)):=hcell 0 _ rfl
        have x1:wr.cell? ⟨E,o + j * 3 + 1,none⟩=some (.bool qs[j].c):=hcell 1 _ rfl
        have x2:wr.cell? ⟨E,o + j * 3 + 2,none⟩=some (meetV qs[j]):=hcell 2 _ rfl
        have HCMm:Hid _:=HCM.out j hjn
        have HCZ:Hid ((cmpQ qs[j] p == 0)=true ↔ ∃ h:j < qs.length,qs[j].s=p.s∧qs[j].c=p.c):=by
          rw [beq_iff_eq,cmp_eq]; exact ⟨fun h=>⟨hjn,h⟩,fun ⟨_,h⟩=>h⟩
        have hz0:(0:Int) ≤ (j:Int):=by omega
        have hz1:(j:Int) < (qs.length:Int):=by omega
        have hgm:∀ Y,qs[j]'hjn=Y → cmpQ qs[j] p=cmpQ Y p:=fun Y e=>by rw [e]
        clear hgm
        generalize hz:cmpQ qs[j] p=z at *
        clear hz
        generalize hvy:meetV qs[j]=vy at *
        clear hvy
        have HCZ':Hid ((z == 0)=true ↔ ∃ h:j < qs.length,qs[j].s=p.s∧qs[j].c=p.c):=HCZ
        clear HCZ
        obtain ⟨ys,hys⟩:∃ ys,qs[j].s=ys:=⟨_,rfl⟩
        obtain ⟨yc,hyc⟩:∃ yc,qs[j].c=yc:=⟨_,rfl⟩
        rw [hys] at x0
        rw [hyc] at x1
        rw [hys,hyc] at HCMm
        clear hys hyc
        clear hb hcell he2 rf hrw
        go_upto_region 8 with fail
        have d0:wr.drew.cell? ⟨R,0,none⟩=some (.int .i64 (p.s:Int)):=r0
        have d1:wr.drew.cell? ⟨R,1,none⟩=some (.bool p.c):=r1
        have d2:wr.drew.cell? ⟨R,2,none⟩=some vp:=r2
        have d3:wr.drew.cell? ⟨E,o + j * 3,none⟩=some (.int .i64 (ys:Int)):=x0
        have d4:wr.drew.cell? ⟨E,o + j * 3 + 1,none⟩=some (.bool yc):=x1
        have d5:wr.drew.cell? ⟨E,o + j * 3 + 2,none⟩=some vy:=x2
        clear r0 r1 r2 x0 x1 x2
        go_region_held3 (fun W:World=>W.cell? ⟨R,0,none⟩=some (.int .i64 (p.s:Int))∧W.cell? ⟨R,1,none⟩=some (.bool p.c)∧W.cell? ⟨R,2,none⟩=some vp∧W.cell? ⟨E,o + j * 3,none⟩=some (.int .i64 (ys:Int))∧W.cell? ⟨E,o + j * 3 + 1,none⟩=some (.bool yc)∧W.cell? ⟨E,o + j * 3 + 2,none⟩=some vy)
          (first | with_reducible exact ⟨d0,d1,d2,d3,d4,d5⟩ | with_reducible exact ⟨q0,q1,q2,q3,q4,q5⟩)
          (first
            | (go_at_call 80; refine (show Calls _ _ _ _ _ from HCMm.out _).mono ?_; rintro e w1 ⟨rfl,hb1⟩; have q0:=cell_on d0 hb1; have q1:=cell_on d1 hb1; have q2:=cell_on d2 hb1; have q3:=cell_on d3 hb1; have q4:=cell_on d4 hb1; have q5:=cell_on d5 hb1))
        have HB1:Hid (Below W0.heap.size W0 w1):=bel_to HB.out.drew hb1 (Nat.le_refl _)
        clear hb1 q0 q1 q2 q3 q4 q5 d0 d1 d2 d3 d4 d5
        go_wp2
        go_returns
        exact ⟨HBT.out _ HB1.out,j,z == 0,HPL.out,HCZ'.out,rfl⟩
      · have HNO:Hid ((false=true) ↔ ∃ h:j < qs.length,qs[j].s=p.s∧qs[j].c=p.c):=⟨fun h=>(by cases h),fun ⟨h,_⟩=>absurd h hjn⟩
        have hz1:¬ (j:Int) < (qs.length:Int):=by omega
        clear hb rf hrw r0 r1 r2
        go_upto_region 8 with fail
        go_quiet (fail)
        go_wp2
        go_returns
        exact ⟨HBT.out _ (below_drewN HB.out _),j,false,HPL.out,HNO.out,rfl⟩
end Go.Proofs.YtbgbmfmgdgalbaaGreatDoor
