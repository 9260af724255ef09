import Derived.Test.YtbgbmfmgdgalbaaGreatDoorM08
import Derived.Shelf.SlMaps.Clone
import Derived.Test.YtbgbmfmgdgalbaaGreatDoorShC
namespace Go.Proofs.YtbgbmfmgdgalbaaGreatDoor
open Go.RowKit Go.Maps
set_option linter.unusedVariables false
set_option linter.unusedSimpArgs false
theorem nil_own (w:World):w.ownsRow 0 9 1 (.slice none 0 0) ([]:List ByteArray).length (psE.fl []):=⟨rfl,Or.inl ⟨rfl,rfl⟩⟩
theorem find0_any (g:Nat) (X:Gh) (F:Fs) (n:ByteArray) (hn:n.size ≤ 140737488355328) (w:World) (h:FsP w g X F):Calls Tryz.prog 112 #[ptr (some g),.string n,.slice none 0 0] w fun e w'=>e=.returned (.tuple #[(fndM F X n []).1,.int .i64 (hasM F n)])∧Below w.heap.size w w':=by
  refine (find_any g X F n hn (.slice none 0 0) [] (by decide) (fun s hs=>by cases hs) w h (nil_own w) (fun k hk=>by cases hk)).mono ?_
  rintro e w' ⟨rfl,hm,_⟩
  rw [fnd_has]
  exact ⟨rfl,hm.bel (fun k _ hk=>by cases hk) (Nat.le_refl _)⟩
set_option maxHeartbeats 2000000 in
set_option maxRecDepth 100000 in
theorem Sync_any (HGD:GoDownC) (g:Nat) (X:Gh) (F:Fs) (n:ByteArray) (hn:n.size ≤ 140737488355328) (w:World) (h:FsP w g X F) (hs:Sm F X) (hs1:F.steps < 3298534883328) (hpk:F.picks.length ≤ 17592186044416) :
    Calls Tryz.prog 144 #[ptr (some g),.string n] w fun e w'=>e=.returned (.int .i64 (syncM F n).2)∧∃ X',Bec w g X F w' X' (syncM F n).1:=by
  have HFI:Hid _:=find0_any g X F n hn w h
  by_cases h0:hasM F n=0
  · obtain ⟨hd,hnm,hf⟩:=has_zero.1 h0
    obtain ⟨i,hi1,hi2,hi3,hl⟩:=h.named hf
    have hy:=fnd_yes (X:=X) (os:=[]) hd (by simpa using hnm) hf
    rw [hy,h0,hi2] at HFI
    have HST:Hid (∀ W,Below w.heap.size w W → Calls Tryz.prog 110 #[ptr (some g),.func (.func 129) #[ptr (some (X.fb i))] #[]] W fun e w'=>StepP g X F W (fun w1 w'=>w'.heap[X.fb i]?=some (.cells #[.int .i64 ((i + 1:Nat):Int),X.pv i,.int .i64 ((F.files.getD i ⟨⟨#[]⟩,0⟩).d.size:Int),.int .i64 ((F.files.getD i ⟨⟨#[]⟩,0⟩).d.size:Int)] 85)∧Only w1 w' (X.fb i)) (fun _ w1 _ w'=>w'=w1) e w'):=fun W hb=>step_any HGD g X F 129 eM_sync #[ptr (some (X.fb i))] #[] _ W (h.on hb) hs hs1 hpk (fun w1 hm hF=>sync_any (X.fb i) _ _ _ _ w1 (hF.file hl).blk)
    have HFN:Hid (∀ W w' e,Below w.heap.size w W → StepP g X F W (fun w1 w'=>w'.heap[X.fb i]?=some (.cells #[.int .i64 ((i + 1:Nat):Int),X.pv i,.int .i64 ((F.files.getD i ⟨⟨#[]⟩,0⟩).d.size:Int),.int .i64 ((F.files.getD i ⟨⟨#[]⟩,0⟩).d.size:Int)] 85)∧Only w1 w' (X.fb i)) (fun _ w1 _ w'=>w'=w1) e w' → e=.returned (.int .i64 (syncM F n).2)∧∃ X',Bec w g X F w' X' (syncM F n).1):=fun W w' e hb hp=>by
      refine hp.fin hb (syncM F n) (fun a b=>?_) (fun a=>?_)
      · have hM:syncM F n=({ up1 F with files:=F.files.set i ⟨(F.files.getD i ⟨⟨#[]⟩,0⟩).d,(F.files.getD i ⟨⟨#[]⟩,0⟩).d.size⟩ },0):=by
          unfold syncM
          rw [if_pos h0]
          simp only []
          rw [if_pos a,b,hi2]; rfl
        rw [hM]
        refine ⟨rfl,fun w1 hm hF hpd=>?_⟩
        have hf1:=hF.file hl
        have hmd:ModP (fun k=>k=X.fb i ∨ (X.pv i).ownBlock=some k) w1 w':=ModP.only hpd.2 (Or.inl rfl)
        have hfile:FileAt w' (X.fb i) i ⟨(F.files.getD i ⟨⟨#[]⟩,0⟩).d,(F.files.getD i ⟨⟨#[]⟩,0⟩).d.size⟩ (X.pv i) (X.ps i):=⟨hpd.1,own_to hf1.own (fun k hk=>hpd.2.other k (hf1.ne hk)),hf1.jn,hf1.few,hf1.big,Nat.le_refl _⟩
        have hB:=hF.file_set hl hfile hmd (Or.inl rfl)
        exact ⟨_,hB.is,hm.andThen hB.md (fun j _ hj=>hj),fun k hk=>(hB.own k hk).imp id (fun q=>Nat.le_trans hm.size q),hB.len,fun q hq=>(hB.nq q hq).imp id (fun h6=>h6.le hm.size)⟩
      · unfold syncM
        rw [if_pos h0]
        simp only []
        rw [if_neg a]
    generalize X.fb i=bb at *
    clear h hs hs1 hpk hd hnm hf hi1 hi2 hi3 hl hy h0
    unfold ptr at HFI HST ⊢
    go_enter Tryz.func144,Tryz.ntmps144
    go_wp2_with fail
    refine (show Calls _ _ _ _ _ from HFI.out).mono ?_
    rintro e w1 ⟨rfl,hb1⟩
    have HB1:Hid (Below w.heap.size w w1):=hb1
    clear hb1
    go_wp2_with fail
    refine (show Calls _ _ _ _ _ from HST.out w1 HB1.out).mono ?_
    rintro e w2 hp
    obtain ⟨he,hB⟩:=HFN.out w1 w2 e HB1.out hp
    have HBB:Hid _:=hB
    subst he
    clear hp hB
    go_wp2
    go_returns
    exact ⟨rfl,HBB.out⟩
  · have hno:=fnd_no (F:=F) (X:=X) (n:=n) (os:=[]) (fun hh=>h0 (has_zero.2 ⟨hh.1,by simpa using hh.2.1,hh.2.2⟩))
    rw [hno.1] at HFI
    have hM:syncM F n=(F,hasM F n):=by unfold syncM; rw [if_neg h0]
    rw [hM]
    have HFP:Hid (FsP w g X F):=h
    obtain ⟨er,her⟩:∃ er,hasM F n=er:=⟨_,rfl⟩
    rw [her] at HFI h0 ⊢
    have hne:(er == 0)=false:=by simpa using h0
    clear h hs hs1 hpk hno hM her
    unfold ptr at HFI ⊢
    go_enter Tryz.func144,Tryz.ntmps144
    go_wp2_with fail
    refine (show Calls _ _ _ _ _ from HFI.out).mono ?_
    rintro e w1 ⟨rfl,hb1⟩
    have HB1:Hid (Below w.heap.size w w1):=hb1
    clear hb1
    go_wp2
    go_returns
    exact ⟨rfl,X,(Bec.refl (HFP.out.on HB1.out)).pre HB1.out⟩
end Go.Proofs.YtbgbmfmgdgalbaaGreatDoor
namespace Go.Proofs.YtbgbmfmgdgalbaaGreatDoor
open Go.RowKit Go.Maps
set_option linter.unusedVariables false
set_option linter.unusedSimpArgs false
theorem eM_rename (args:Array Value) (w:World):(callFunc 163 args).run Tryz.prog w=.ok (.enter 163 args) w:=by kernel_rfl
theorem eM_remove (args:Array Value) (w:World):(callFunc 115 args).run Tryz.prog w=.ok (.enter 115 args) w:=by kernel_rfl
theorem cell1 {W:World} {b T:Nat} {v:Value} (h:W.heap[b]?=some (.cells #[v] T)):W.cell? ⟨b,0,none⟩=some v:=by rw [cell_of_row _ _ _ _ _ _ h]; rfl
set_option maxHeartbeats 1000000 in
theorem Rename1_any (g b0 b1 b2 b3 T0 T1 T2 T3 fbk:Nat) (n t:ByteArray) (Po:World → Prop) (w:World) (h0:w.heap[b0]?=some (.cells #[ptr (some g)] T0)) (h1:w.heap[b1]?=some (.cells #[.string n] T1)) (h2:w.heap[b2]?=some (.cells #[.string t] T2)) (h3:w.heap[b3]?=some (.cells #[ptr (some fbk)] T3)) (hc:Calls Tryz.prog 116 #[ptr (some g),.agg #[.string n,.string t,ptr (some fbk)]] w fun e w'=>e=.returned (.tuple #[])∧Po w') :
    Calls Tryz.prog 163 #[.pointer (some ⟨b0,0,none⟩),.pointer (some ⟨b1,0,none⟩),.pointer (some ⟨b2,0,none⟩),.pointer (some ⟨b3,0,none⟩)] w fun e w'=>e=.returned (.tuple #[])∧Po w':=by
  have c0:=cell1 h0
  have c1:=cell1 h1
  have c2:=cell1 h2
  have c3:=cell1 h3
  have HC:Hid _:=hc
  clear hc h0 h1 h2 h3
  unfold ptr at c0 c3 HC
  go_enter Tryz.func163,Tryz.ntmps163
  go_wp2_with fail
  refine (show Calls _ _ _ _ _ from HC.out).mono ?_
  rintro e w1 ⟨rfl,hp⟩
  go_wp2
  go_end0
  exact ⟨rfl,hp⟩
set_option maxHeartbeats 1000000 in
theorem Remove1_any (g b0 b1 b2 T0 T1 T2 fbk:Nat) (n:ByteArray) (Po:World → Prop) (w:World) (h0:w.heap[b0]?=some (.cells #[ptr (some g)] T0)) (h1:w.heap[b1]?=some (.cells #[.string n] T1)) (h2:w.heap[b2]?=some (.cells #[ptr (some fbk)] T2)) (hc:Calls Tryz.prog 116 #[ptr (some g),.agg #[.string n,.string ⟨#[]⟩,ptr (some fbk)]] w fun e w'=>e=.returned (.tuple #[])∧Po w') :
    Calls Tryz.prog 115 #[.pointer (some ⟨b0,0,none⟩),.pointer (some ⟨b1,0,none⟩),.pointer (some ⟨b2,0,none⟩)] w fun e w'=>e=.returned (.tuple #[])∧Po w':=by
  have c0:=cell1 h0
  have c1:=cell1 h1
  have c2:=cell1 h2
  have HC:Hid _:=hc
  clear hc h0 h1 h2
  unfold ptr at c0 c2 HC
  go_enter Tryz.func115,Tryz.ntmps115
  go_wp2_with fail
  refine (show Calls _ _ _ _ _ from HC.out).mono ?_
  rintro e w1 ⟨rfl,hp⟩
  go_wp2
  go_end0
  exact ⟨rfl,hp⟩
def ChgF (g:Nat) (X:Gh) (F:Fs) (c:Ch) (i:Nat) (w w':World):Prop:=∃ cv',FsP w' g { X with cv:=cv',cf:=X.cf ++ [i] } (changeM F c)∧ModP (Own g F X) w w'∧∀ k,Own g (changeM F c) { X with cv:=cv',cf:=X.cf ++ [i] } k → Own g F X k ∨ k=X.fb i ∨ (X.pv i).ownBlock=some k ∨ w.heap.size ≤ k
theorem ChgF.bec {g:Nat} {X:Gh} {F F1:Fs} {c:Ch} {i:Nat} {W w1 w':World} (h:ChgF g X F1 c i w1 w') (hl:Live F X i) (hL:∀ j,Live F1 X j ↔ Live F X j) (hm:ModP (Own g F X) W w1):∃ X',Bec W g X F w' X' (changeM F1 c):=by
  obtain ⟨cv',h1,h2,h3⟩:=h
  have ho:∀ k,Own g F1 X k ↔ Own g F X k:=fun k=>by
    unfold Own
    constructor
    · rintro (h | h | h | ⟨j,hj,h⟩ | h | h)
      · exact Or.inl h
      · exact Or.inr (Or.inl h)
      · exact Or.inr (Or.inr (Or.inl h))
      · exact Or.inr (Or.inr (Or.inr (Or.inl ⟨j,(hL j).1 hj,h⟩)))
      · exact Or.inr (Or.inr (Or.inr (Or.inr (Or.inl h))))
      · exact Or.inr (Or.inr (Or.inr (Or.inr (Or.inr h))))
    · rintro (h | h | h | ⟨j,hj,h⟩ | h | h)
      · exact Or.inl h
      · exact Or.inr (Or.inl h)
      · exact Or.inr (Or.inr (Or.inl h))
      · exact Or.inr (Or.inr (Or.inr (Or.inl ⟨j,(hL j).2 hj,h⟩)))
      · exact Or.inr (Or.inr (Or.inr (Or.inr (Or.inl h))))
      · exact Or.inr (Or.inr (Or.inr (Or.inr (Or.inr h))))
  refine ⟨_,h1,hm.andThen h2 (fun j _ hj=>(ho j).1 hj),fun k hk=>?_,by simp,fun q hq=>Or.inl hq⟩
  rcases h3 k hk with h | h | h | h
  · exact Or.inl ((ho k).1 h)
  · exact Or.inl (by rw [h]; exact own_file hl)
  · exact Or.inl (Or.inr (Or.inr (Or.inr (Or.inl ⟨i,hl,Or.inr h⟩))))
  · exact Or.inr (Nat.le_trans hm.size h)
theorem cok_remove {F:Fs} (hd:DOk F.dir F.files.length) {n:ByteArray} (hn:namedM n=true) (i:Nat):COk F ⟨n,⟨#[]⟩,-1⟩ i:=
  ⟨Or.inl (show (-1:Int) < 0 by decide),hn,Or.inl rfl,fun h=>absurd rfl h,by
    have e:afterM F.dir ⟨n,⟨#[]⟩,-1⟩=boundM F.dir n (-1):=if_pos rfl
    rw [e]; exact hd.del n (by decide)⟩
theorem cok_rename {F:Fs} (hd:DOk F.dir F.files.length) {n t:ByteArray} (hn:namedM n=true) (ht:namedM t=true) {i:Nat} (hi:findM F.dir n=(i:Int)) (hl:i < F.files.length):COk F ⟨n,t,(i:Int)⟩ i:=by
  have h0:¬ t.size=0:=by have:=(named_size ht).1; omega
  refine ⟨Or.inr rfl,hn,Or.inr ht,fun _=>rfl,?_⟩
  have e:afterM F.dir ⟨n,t,(i:Int)⟩=boundM (boundM F.dir n (-1)) t (i:Int):=if_neg h0
  rw [e]
  obtain ⟨x,hx,e1,e2⟩:=findM_mem (d:=F.dir) (n:=n) (by omega)
  have hd1:=hd.del n (f:=-1) (by decide)
  refine hd1.put ht (by omega) (by omega) (fun y hy _ e3=>?_) (Or.inl ?_)
  · rw [bound_del (by decide)] at hy
    obtain ⟨hy1,hy2⟩:=List.mem_filter.1 hy
    have hne:y ≠ x:=fun e4=>by subst e4; simp [e1] at hy2
    exact pair_ne hd.uni hy1 hx hne (by omega)
  · rw [bound_del (by decide)]
    have h1:=hd.few
    have:(F.dir.filter fun x=>decide (x.1 ≠ n)).length < F.dir.length:=by
      have h2:=List.length_filter_lt_length_iff_exists (p:=fun x:Sl=>decide (x.1 ≠ n)) (l:=F.dir)
      exact h2.2 ⟨x,hx,by simp [e1]⟩
    omega
end Go.Proofs.YtbgbmfmgdgalbaaGreatDoor
namespace Go.Proofs.YtbgbmfmgdgalbaaGreatDoor
open Go.RowKit Go.Maps
set_option linter.unusedVariables false
set_option linter.unusedSimpArgs false
theorem ModP.fresh {g:Nat} {X:Gh} {F:Fs} {w W w1:World} (h:FsP w g X F) (hm:ModP (Own g F X) W w1) {k:Nat} {o:Obj} (hk:W.heap[k]?=some o) (hw:w.heap.size ≤ k):w1.heap[k]?=some o:=
  hm.row hk (fun ho=>by have:=h.own_lt ho; omega)
theorem two_new {w:World} (a b:Obj):((w.alloc a).alloc b).heap[w.heap.size]?=some a∧((w.alloc a).alloc b).heap[w.heap.size + 1]?=some b∧((w.alloc a).alloc b).heap.size=w.heap.size + 2∧Below w.heap.size w ((w.alloc a).alloc b):=by
  have h1:(w.alloc a).heap.size=w.heap.size + 1:=by simp
  refine ⟨(heap_alloc_old _ _ (by omega)).trans (one_alloc _ _),?_,by simp,((Below.refl _ _).alloc (Nat.le_refl _) _).alloc (by simp) _⟩
  rw [← h1]; exact one_alloc _ _
set_option maxHeartbeats 2000000 in
set_option maxRecDepth 100000 in
theorem Remove_any (HGD:GoDownC) (g:Nat) (X:Gh) (F:Fs) (n:ByteArray) (hn:n.size ≤ 140737488355328) (w:World) (h:FsP w g X F) (hs:Sm F X) (hs1:F.steps < 3298534883328) (hpk:F.picks.length ≤ 17592186044416) :
    Calls Tryz.prog 73 #[ptr (some g),.string n] w fun e w'=>e=.returned (.int .i64 (removeM F n).2)∧∃ X',Bec w g X F w' X' (removeM F n).1:=by
  obtain ⟨R,hR⟩:∃ R,w.heap.size=R:=⟨_,rfl⟩
  obtain ⟨n1,n2,n3,n4⟩:=two_new (w:=w) (.cells #[.pointer (some ⟨g,0,none⟩)] 25) (.cells #[.string n] 9)
  obtain ⟨W0,hW0⟩:∃ W0,(w.alloc (.cells #[.pointer (some ⟨g,0,none⟩)] 25)).alloc (.cells #[.string n] 9)=W0:=⟨_,rfl⟩
  rw [hW0] at n1 n2 n3 n4
  rw [hR] at n1 n2 n3
  have hF0:FsP W0 g X F:=h.on n4
  have HFI:Hid _:=find0_any g X F n hn W0 hF0
  have HB0:Hid (Below w.heap.size w W0):=n4
  have HN1:Hid (W0.heap[R]?=some (.cells #[.pointer (some ⟨g,0,none⟩)] 25)):=n1
  have HN2:Hid (W0.heap[R + 1]?=some (.cells #[.string n] 9)):=n2
  have HRR:Hid (w.heap.size=R):=hR
  have c0:=cell1 n1
  have c1:=cell1 n2
  by_cases h0:hasM F n=0
  · obtain ⟨hd,hnm,hf⟩:=has_zero.1 h0
    obtain ⟨i,hi1,hi2,hi3,hl⟩:=h.named hf
    have hy:=fnd_yes (X:=X) (os:=[]) hd (by simpa using hnm) hf
    rw [hy,h0,hi2] at HFI
    have hxi:F.files[i]?=some F.files[i]:=List.getElem?_eq_getElem hi3
    have hck:COk (up1 F) ⟨n,⟨#[]⟩,-1⟩ i:=cok_remove (F:=up1 F) h.ok.dir hnm i
    have HST:Hid (∀ W b,Below w.heap.size w W → W.heap[R]?=some (.cells #[ptr (some g)] 25) → W.heap[R + 1]?=some (.cells #[.string n] 9) → R ≤ b → W.heap[b]?=some (.cells #[ptr (some (X.fb i))] 83) → Calls Tryz.prog 110 #[ptr (some g),.func (.func 115) #[] #[.pointer (some ⟨R,0,none⟩),.pointer (some ⟨R + 1,0,none⟩),.pointer (some ⟨b,0,none⟩)]] W fun e w'=>StepP g X F W (ChgF g X (up1 F) ⟨n,⟨#[]⟩,-1⟩ i) (fun _ w1 _ w'=>w'=w1) e w'):=fun W b hb r1 r2 rb r3=>step_any HGD g X F 115 eM_remove #[] _ _ W (h.on hb) hs hs1 hpk (fun w1 hm hF=>by
      refine Remove1_any g R (R + 1) b _ _ _ (X.fb i) n _ w1 (hm.fresh h r1 (by omega)) (hm.fresh h r2 (by omega)) (hm.fresh h r3 (by omega)) ?_
      exact changeF_any g X (up1 F) ⟨n,⟨#[]⟩,-1⟩ i F.files[i] w1 hF ⟨by show F.steps + 1 ≤ _; omega,hs.fi,hs.ch,hs.qs⟩ hck hxi (hF.fil i _ hl hxi) (fun j hj hne=>hF.inj j i hj hl hne))
    have HFN:Hid (∀ W w' e,Below w.heap.size w W → StepP g X F W (ChgF g X (up1 F) ⟨n,⟨#[]⟩,-1⟩ i) (fun _ w1 _ w'=>w'=w1) e w' → e=.returned (.int .i64 (removeM F n).2)∧∃ X',Bec w g X F w' X' (removeM F n).1):=fun W w' e hb hp=>by
      refine hp.fin hb (removeM F n) (fun a b=>?_) (fun a=>?_)
      · have hM:removeM F n=(changeM (up1 F) ⟨n,⟨#[]⟩,-1⟩,0):=by
          unfold removeM
          rw [if_pos h0]
          simp only []
          rw [if_pos a,b]
        rw [hM]
        exact ⟨rfl,fun w1 hm hF hpd=>hpd.bec hl (fun j=>Iff.rfl) hm⟩
      · unfold removeM
        rw [if_pos h0]
        simp only []
        rw [if_neg a]
    generalize X.fb i=bb at *
    clear h hs hs1 hpk hd hnm hf hi1 hi2 hi3 hl hy h0 n1 n2 n3 n4 hF0 hxi hck
    unfold ptr at HFI HST ⊢
    go_enter Tryz.func73,Tryz.ntmps73
    go_wp2_with fail
    refine (show Calls _ _ _ _ _ from HFI.out).mono ?_
    rintro e w1 ⟨rfl,hb1⟩
    have HB1:Hid (Below w.heap.size w w1):=bel_to HB0.out hb1 (Nat.le_refl _)
    have r1:=keep_row HN1.out hb1
    have r2:=keep_row HN2.out hb1
    obtain ⟨W2,hW2⟩:∃ W2,w1.alloc (.cells #[.pointer (some ⟨bb,0,none⟩)] 83)=W2:=⟨_,rfl⟩
    obtain ⟨b,hbb⟩:∃ b,w1.heap.size=b:=⟨_,rfl⟩
    have hb2:Below w1.heap.size w1 W2:=by rw [← hW2]; exact (Below.refl _ _).alloc (Nat.le_refl _) _
    have r3:W2.heap[b]?=some (.cells #[.pointer (some ⟨bb,0,none⟩)] 83):=by rw [← hW2,← hbb]; exact one_alloc _ _
    have HS2:Hid _:=HST.out W2 b (bel_to HB1.out hb2 (Nat.le_refl _)) (keep_row r1 hb2) (keep_row r2 hb2) (by have:=HB1.out.size; have:=HRR.out; omega) r3
    have HB2:Hid (Below w.heap.size w W2):=bel_to HB1.out hb2 (Nat.le_refl _)
    have d0:=cell1 (keep_row r1 hb2)
    clear hb1 r1 r2 r3 hb2 c0 c1 hW0
    go_wp2_with fail
    refine (show Calls _ _ _ _ _ from HS2.out).mono ?_
    rintro e w3 hp
    obtain ⟨he,hB⟩:=HFN.out W2 w3 e HB2.out hp
    have HBB:Hid _:=hB
    subst he
    clear hp hB
    go_wp2
    go_returns
    exact ⟨rfl,HBB.out⟩
  · have hno:=fnd_no (F:=F) (X:=X) (n:=n) (os:=[]) (fun hh=>h0 (has_zero.2 ⟨hh.1,by simpa using hh.2.1,hh.2.2⟩))
    rw [hno.1] at HFI
    have hM:removeM F n=(F,hasM F n):=by unfold removeM; rw [if_neg h0]
    rw [hM]
    have HFP:Hid (FsP W0 g X F):=hF0
    obtain ⟨er,her⟩:∃ er,hasM F n=er:=⟨_,rfl⟩
    rw [her] at HFI h0 ⊢
    have hne:(er == 0)=false:=by simpa using h0
    clear h hs hs1 hpk hno hM her n1 n2 n3 n4 hF0
    unfold ptr at HFI ⊢
    go_enter Tryz.func73,Tryz.ntmps73
    go_wp2_with fail
    refine (show Calls _ _ _ _ _ from HFI.out).mono ?_
    rintro e w1 ⟨rfl,hb1⟩
    have HB1:Hid (Below W0.heap.size W0 w1):=hb1
    clear hb1 hW0 c0 c1
    go_wp2
    go_returns
    refine ⟨rfl,X,?_⟩
    have hb4:Below w1.heap.size w1 (w1.alloc (.cells #[.pointer none] 83)):=(Below.refl _ _).alloc (Nat.le_refl _) _
    exact (Bec.refl ((HFP.out.on HB1.out).on hb4)).pre (bel_to (bel_to HB0.out HB1.out (Nat.le_refl _)) hb4 (Nat.le_refl _))
end Go.Proofs.YtbgbmfmgdgalbaaGreatDoor
namespace Go.Proofs.YtbgbmfmgdgalbaaGreatDoor
open Go.RowKit Go.Maps
set_option linter.unusedVariables false
set_option linter.unusedSimpArgs false
def agQ (q:Pq):Value:=.agg #[.int .i64 (q.s:Int),.bool q.c,meetV q]
def cmpQ (a b:Pq):Int:=if a.s ≠ b.s ∨ a.c=b.c then Lib.compareInt a.s b.s else if a.c then -1 else 1
set_option maxHeartbeats 1000000 in
theorem Crash1_any (q:Pq) (w:World):Calls Tryz.prog 44 #[agQ q] w fun e w'=>e=.returned (.bool q.c)∧Below w.heap.size w w':=by
  obtain ⟨W0,hW0⟩:∃ W0,w.alloc (.cells #[.int .i64 (q.s:Int),.bool q.c,meetV q] 91)=W0:=⟨_,rfl⟩
  obtain ⟨R,hR⟩:∃ R,w.heap.size=R:=⟨_,rfl⟩
  have hb0:Below R w W0:=by rw [← hW0]; exact (Below.refl _ _).alloc (by omega) _
  have hr0:W0.heap[R]?=some (.cells #[.int .i64 (q.s:Int),.bool q.c,meetV q] 91):=by rw [← hW0,← hR]; exact one_alloc _ _
  obtain ⟨r0,r1,r2,rf⟩:=row3 hr0
  have HB:Hid (Below R w W0):=hb0
  have HR:Hid (w.heap.size=R):=hR
  clear hb0 hr0
  unfold agQ
  go_enter Tryz.func44,Tryz.ntmps44
  go_upto_region 1 with fail
  go_wp2
  go_ret
  exact ⟨rfl,by rw [HR.out]; exact HB.out⟩
theorem cmp_lt (a b:Pq):cmpQ a b < 0 ↔ ltQ a b:=by
  unfold cmpQ ltQ Lib.compareInt
  rcases a with ⟨s,c,_⟩
  rcases b with ⟨t,d,_⟩
  by_cases h:s=t
  · subst h
    cases c <;> cases d <;> simp
  · simp [h]
    split
    · simp; omega
    · split <;> simp <;> omega
theorem cmp_eq (a b:Pq):cmpQ a b=0 ↔ (a.s=b.s∧a.c=b.c):=by
  unfold cmpQ Lib.compareInt
  rcases a with ⟨s,c,_⟩
  rcases b with ⟨t,d,_⟩
  by_cases h:s=t
  · subst h
    cases c <;> cases d <;> simp
  · simp [h]
    split
    · simp
    · split
      · simp
      · omega
set_option maxHeartbeats 2000000 in
theorem comparePlans_any (a b:Pq) (w:World):Calls Tryz.prog 80 #[agQ a,agQ b] w fun e w'=>e=.returned (.int .i64 (cmpQ a b))∧Below w.heap.size w w':=by
  obtain ⟨⟨h1,h2,h3,h4⟩,_⟩:_∧True:=⟨two_new (w:=w) (.cells #[.int .i64 (a.s:Int),.bool a.c,meetV a] 91) (.cells #[.int .i64 (b.s:Int),.bool b.c,meetV b] 91),trivial⟩
  obtain ⟨W0,hW0⟩:∃ W0,(w.alloc (.cells #[.int .i64 (a.s:Int),.bool a.c,meetV a] 91)).alloc (.cells #[.int .i64 (b.s:Int),.bool b.c,meetV b] 91)=W0:=⟨_,rfl⟩
  rw [hW0] at h1 h2 h3 h4
  obtain ⟨R,hR⟩:∃ R,w.heap.size=R:=⟨_,rfl⟩
  rw [hR] at h1 h2 h4
  obtain ⟨r0,r1,r2,rf⟩:=row3 h1
  obtain ⟨q0,q1,q2,qf⟩:=row3 h2
  have HB:Hid (Below R w W0):=h4
  have HR:Hid (w.heap.size=R):=hR
  have HC:Hid _:=Tryz.cmp_Compare_int (a.s:Int) (b.s:Int) W0
  have hcc:cmpQ a b=if a.s ≠ b.s ∨ a.c=b.c then Lib.compareInt a.s b.s else if a.c then -1 else 1:=rfl
  have HAL:(w.alloc (.cells #[.int .i64 (a.s:Int),.bool a.c,meetV a] 91)).heap.size=R + 1:=by rw [← hR]; simp
  clear h1 h2 h3 h4
  unfold agQ
  by_cases hs:a.s=b.s
  · rw [← hs] at q0 HC hcc hW0 ⊢
    have hss:(a.s ≠ a.s ∨ a.c=b.c) ↔ a.c=b.c:=⟨fun h=>h.elim (fun h=>absurd rfl h) id,Or.inr⟩
    simp only [hss] at hcc
    rw [hcc]
    generalize a.s=x at *
    generalize a.c=ac at *
    generalize b.c=bc at *
    clear hcc hss hs
    go_enter Tryz.func80,Tryz.ntmps80
    go_upto_region 1 with fail
    clear hW0 HAL hR
    cases ac <;> cases bc
    · go_wp2_with fail
      refine (show Calls _ _ _ _ _ from HC.out).mono ?_
      rintro e w1 ⟨rfl,rfl⟩
      go_wp2
      go_ret
      exact ⟨rfl,by rw [HR.out]; exact HB.out⟩
    · go_wp2
      go_ret
      exact ⟨rfl,by rw [HR.out]; exact HB.out⟩
    · go_wp2
      go_ret
      exact ⟨rfl,by rw [HR.out]; exact HB.out⟩
    · go_wp2_with fail
      refine (show Calls _ _ _ _ _ from HC.out).mono ?_
      rintro e w1 ⟨rfl,rfl⟩
      go_wp2
      go_ret
      exact ⟨rfl,by rw [HR.out]; exact HB.out⟩
  · rw [hcc,if_pos (Or.inl hs)]
    have hne:((a.s:Int) == (b.s:Int))=false:=by simp; omega
    have hne':¬ (a.s:Int)=(b.s:Int):=by omega
    clear hcc
    generalize a.c=ac at *
    generalize b.c=bc at *
    generalize a.s=x at *
    generalize b.s=y at *
    go_enter Tryz.func80,Tryz.ntmps80
    go_upto_region 1 with fail
    clear hW0 HAL hR
    go_wp2_with fail
    refine (show Calls _ _ _ _ _ from HC.out).mono ?_
    rintro e w1 ⟨rfl,rfl⟩
    go_wp2
    go_ret
    exact ⟨rfl,by rw [HR.out]; exact HB.out⟩
end Go.Proofs.YtbgbmfmgdgalbaaGreatDoor
