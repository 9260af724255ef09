import Derived.Test.YtbgbmfmgdgalbaaGreatDoorM08
import Derived.Shelf.SlMaps.Clone
namespace Go.Proofs.YtbgbmfmgdgalbaaGreatDoor
open Go.RowKit Go.Maps
set_option linter.unusedVariables false
set_option linter.unusedSimpArgs false
theorem eM_step1 (args:Array Value) (w:World):(callFunc 150 args).run Tryz.prog w=.ok (.enter 150 args) w:=by kernel_rfl
set_option maxHeartbeats 1000000 in
theorem step1_any (p:Int) (w:World):Calls Tryz.prog 150 #[.int .i64 p] w fun e w'=>e=.returned (.tuple #[])∧w'=w:=by
  go_enter Tryz.func150,Tryz.ntmps150
  go_wp2
  go_end0
  exact ⟨rfl,rfl⟩
set_option maxHeartbeats 1000000 in
theorem step_any (HGD:GoDownC) (g:Nat) (X:Gh) (F:Fs) (D:Nat) (eD:∀ args w,(callFunc D args).run Tryz.prog w=.ok (.enter D args) w) (pre free:Array Value) (PD:World → World → Prop) (w:World) (h:FsP w g X F) (hs:Sm F X) (hs1:F.steps < 3298534883328) (hpk:F.picks.length ≤ 17592186044416)
    (hdo:∀ w1,ModP (Own g F X) w w1 → FsP w1 g X (up1 F) → Calls Tryz.prog D (pre ++ free) w1 fun e w'=>e=.returned (.tuple #[])∧PD w1 w') :
    Calls Tryz.prog 110 #[ptr (some g),.func (.func D) pre free] w fun e w'=>StepP g X F w PD (fun _ w1 _ w'=>w'=w1) e w':=by
  have HS:Hid _:=stepOrPart_any HGD g X F D eD pre free 150 eM_step1 #[] #[] PD (fun _ w1 _ w'=>w'=w1) w h hs hs1 hpk hdo (fun w1 qv qs p _=>step1_any p w1)
  clear h hdo hs hs1 hpk
  unfold ptr at HS ⊢
  go_enter Tryz.func110,Tryz.ntmps110
  go_wp2_with fail
  refine (show Calls _ _ _ _ _ from HS.out).mono ?_
  rintro e w1 hp
  have HP:Hid (StepP g X F w PD (fun _ w1 _ w'=>w'=w1) e w1):=hp
  obtain ⟨he,_⟩:=hp
  subst he
  go_wp2
  go_returns
  exact HP.out
theorem Bec.pre {w W w':World} {g:Nat} {X X':Gh} {F F':Fs} (hb:Below w.heap.size w W) (h:Bec W g X F w' X' F'):Bec w g X F w' X' F':=
  ⟨h.is,(ModP.below hb).trans h.md,fun k hk=>(h.own k hk).imp id (fun q=>Nat.le_trans hb.size q),h.len,fun q hq=>(h.nq q hq).imp id (fun h6=>h6.le hb.size)⟩
theorem StepP.fin {w W w':World} {g:Nat} {X:Gh} {F:Fs} {PD:World → World → Prop} {e:Ending} (hb:Below w.heap.size w W) (h:StepP g X F W PD (fun _ w1 _ w'=>w'=w1) e w') (M:Fs × Int) (h0:(stepM F).2.1=0 → (stepM F).1=up1 F → M.2=0∧∀ w1,ModP (Own g F X) W w1 → FsP w1 g X (up1 F) → PD w1 w' → ∃ X',Bec W g X F w' X' M.1) (h1:(stepM F).2.1 ≠ 0 → M=((stepM F).1,(stepM F).2.1)):e=.returned (.int .i64 M.2)∧∃ X',Bec w g X F w' X' M.1:=by
  obtain ⟨he,hc⟩:=h
  rcases hc with ⟨a,b,w1,c,d,f⟩ | ⟨a,b,w1,qv,qs,c,d⟩ | ⟨a,X',c⟩
  · obtain ⟨m2,hm⟩:=h0 a b
    obtain ⟨X',hB⟩:=hm w1 c d f
    exact ⟨by rw [he,a,m2],X',hB.pre hb⟩
  · have hM:=h1 (by omega)
    refine ⟨by rw [he,hM],{ X with qv:=qv,qs:=qs },?_⟩
    rw [hM]
    simp only []
    rw [b,d]
    exact c.pre hb
  · have hM:=h1 (by omega)
    exact ⟨by rw [he,hM],X',by rw [hM]; exact c.pre hb⟩
theorem fnd_no {F:Fs} {X:Gh} {n:ByteArray} {os:List ByteArray} (h:¬ (F.down=false∧(os ++ [n]).all namedM=true∧¬ findM F.dir n < 0)):(fndM F X n os).1=.pointer none∧(fndM F X n os).2 ≠ 0:=by
  unfold fndM chkM
  by_cases hd:F.down
  · simp [hd]
  · simp only [hd,if_false,Bool.false_eq_true]
    by_cases ha:(os ++ [n]).all namedM=true
    · rw [if_pos ha,if_pos rfl]
      by_cases hf:findM F.dir n < 0
      · rw [if_pos hf]; exact ⟨rfl,by decide⟩
      · exact absurd ⟨by simpa using hd,ha,hf⟩ h
    · rw [if_neg ha,if_neg (by decide)]; exact ⟨rfl,by decide⟩
theorem fnd_yes {F:Fs} {X:Gh} {n:ByteArray} {os:List ByteArray} (hd:F.down=false) (ha:(os ++ [n]).all namedM=true) (hf:¬ findM F.dir n < 0):fndM F X n os=(ptr (some (X.fb (findM F.dir n).toNat)),0):=by
  unfold fndM chkM
  rw [hd]
  simp only [Bool.false_eq_true,if_false]
  rw [if_pos ha,if_pos rfl,if_neg hf]
theorem fnd_has (F:Fs) (X:Gh) (n:ByteArray):(fndM F X n []).2=hasM F n:=by
  unfold fndM chkM hasM
  simp only [List.nil_append,List.all_cons,List.all_nil,Bool.and_true]
  by_cases hd:F.down
  · simp [hd]
  · simp only [hd,if_false,Bool.false_eq_true]
    by_cases ha:namedM n=true
    · rw [if_pos ha,if_pos rfl,if_pos ha]; split <;> rfl
    · rw [if_neg ha,if_neg (by decide),if_neg ha]
theorem has_zero {F:Fs} {n:ByteArray}:hasM F n=0 ↔ F.down=false∧namedM n=true∧¬ findM F.dir n < 0:=by
  unfold hasM
  by_cases hd:F.down
  · simp [hd]
  · simp only [hd,if_false,Bool.false_eq_true]
    by_cases ha:namedM n=true
    · rw [if_pos ha]
      by_cases hf:findM F.dir n < 0
      · rw [if_pos hf]; simp [hf]
      · rw [if_neg hf]; simp [ha,hf]
    · rw [if_neg ha]; simp [ha]
theorem FsC.named {w:World} {g:Nat} {X:Gh} {F:Fs} (h:FsC w g X F) {n:ByteArray} (hf:¬ findM F.dir n < 0):∃ i:Nat,findM F.dir n=(i:Int)∧(findM F.dir n).toNat=i∧i < F.files.length∧Live F X i:=by
  obtain ⟨x,hx,e1,e2⟩:=findM_mem hf
  have h1:=h.ok.dir.ge x hx
  have h2:=h.ok.dir.lt x hx
  exact ⟨x.2.toNat,by omega,by omega,by omega,Or.inl ⟨x,hx,by omega⟩⟩
theorem eM_sync (args:Array Value) (w:World):(callFunc 129 args).run Tryz.prog w=.ok (.enter 129 args) w:=by kernel_rfl
theorem own_file {g:Nat} {F:Fs} {X:Gh} {i:Nat} (h:Live F X i):Own g F X (X.fb i):=Or.inr (Or.inr (Or.inr (Or.inl ⟨i,h,Or.inl rfl⟩)))
theorem FsP.file_set {w w':World} {g:Nat} {X:Gh} {F:Fs} {i:Nat} {x:Fi} {pv:Value} {ps:List ByteArray} (h:FsP w g X F) (hl:Live F X i) (hf:FileAt w' (X.fb i) i x pv ps) (hm:ModP (fun k=>k=X.fb i ∨ (X.pv i).ownBlock=some k) w w') (hloc:Loc w (X.pv i) pv) :
    Bec w g X F w' { X with pv:=fun j=>if j=i then pv else X.pv j,ps:=fun j=>if j=i then ps else X.ps j } { F with files:=F.files.set i x }:=by
  have hi:=h.live_lt hl
  have hfi:=h.file hl
  have hb:=hfi.blk
  have key:∀ {k:Nat} {cs:Array Value} {t:Nat} {fz:Nat × Nat},w.heap[k]?=some (.cells cs t fz) → t ≠ 85 → t ≠ 9 → w'.heap[k]?=w.heap[k]?:=fun {k cs t fz} hk h1 h2=>hm.oth k (row_lt hk) (fun hs=>by
    rcases hs with rfl | hs
    · have:=hk.symm.trans hb
      injection this with this
      injection this with _ h3
      exact h1 h3
    · obtain ⟨cur,hc'⟩:=own_type hfi.own hs
      have:=hk.symm.trans hc'
      injection this with this
      injection this with _ h3
      exact h2 h3)
  have keym:∀ {k n:Nat} {f:ByteArray → Option Nat},MapIs w k n f → w'.heap[k]?=w.heap[k]?:=fun {k n f} hk=>hm.oth k hk.lt (fun hs=>by
    rcases hs with rfl | hs
    · exact hk.ne hb rfl
    · obtain ⟨cur,hc⟩:=own_type hfi.own hs
      exact hk.ne hc rfl)
  obtain ⟨k1,hn⟩:=h.now
  obtain ⟨k2,hs⟩:=h.safe
  have hother:∀ j,Live F X j → j ≠ i → ∀ y,F.files[j]?=some y → FileAt w' (X.fb j) j y (X.pv j) (X.ps j):=fun j hlj hji y hy=>by
    obtain ⟨n1,n2⟩:=h.inj i j hl hlj (Ne.symm hji)
    obtain ⟨n3,n4⟩:=h.inj j i hlj hl hji
    have hfj:=h.fil j y hlj hy
    refine hfj.to (hm.oth _ (row_lt hfj.blk) (fun hs=>?_)) (fun k hk=>hm.oth k (own_lt hfj.own hk) (fun hs=>?_))
    · rcases hs with e | e
      · exact n3 e
      · obtain ⟨cur,hc⟩:=own_type hfi.own e
        have:=hc.symm.trans hfj.blk
        injection this with this
        injection this with _ h3
        exact absurd h3 (by decide)
    · rcases hs with e | e
      · subst e
        obtain ⟨cur,hc⟩:=own_type hfj.own hk
        have:=hc.symm.trans hb
        injection this with this
        injection this with _ h3
        exact absurd h3 (by decide)
      · exact n4 k hk e
  refine ⟨⟨⟨⟨fun k hk=>?_,h.ok.now,h.ok.cl,fun j hj=>?_,h.ok.ch⟩,?_,⟨k1,hn.to (keym hn)⟩,⟨k2,hs.to (keym hs)⟩,h.mne,own_to h.chg (fun k hk=>by obtain ⟨cur,hc⟩:=own_type h.chg hk; exact key hc (by decide) (by decide)),h.row.to (fun k hk=>by obtain ⟨cur,hc⟩:=h.row.type hk; exact key hc (by decide) (by decide)),fun j y hlj hy=>?_,fun j1 j2 h1 h2 hn12=>?_⟩,⟨h.pln.srt,h.pln.ahead,h.pln.all,h.pln.cr⟩,fun q hq=>?_⟩,hm.weak (fun k _ hk=>?_),fun k hk=>?_,by simp,fun q hq=>Or.inl hq⟩
  · show DOk (dirK F k) (F.files.set i x).length
    rw [List.length_set]; exact h.ok.dirs k hk
  · show j < (F.files.set i x).length
    rw [List.length_set]; exact h.ok.cfl j hj
  · show w'.heap[g]?=some (.cells #[.bool F.down,.int .i64 (F.steps:Int),.int .i64 ((F.files.set i x).length:Int),.map (some X.mn),.map (some X.ms),X.cv,X.qv] 74)
    rw [List.length_set]
    exact (key h.blk (by decide) (by decide)).trans h.blk
  · simp only []
    by_cases e:j=i
    · subst e
      rw [if_pos rfl,if_pos rfl]
      have:(F.files.set j x)[j]?=some x:=by rw [List.getElem?_set]; simp [hi]
      rw [show (F.files.set j x)[j]?=some y from hy] at this
      cases this
      exact hf
    · rw [if_neg e,if_neg e]
      refine hother j hlj e y ?_
      have h2:(F.files.set i x)[j]?=F.files[j]?:=by rw [List.getElem?_set,if_neg (Ne.symm e)]
      rw [← h2]; exact hy
  · obtain ⟨n1,n2⟩:=h.inj j1 j2 h1 h2 hn12
    refine ⟨n1,fun k hk hk2=>?_⟩
    simp only [] at hk hk2
    by_cases e1:j1=i
    · by_cases e2:j2=i
      · omega
      · rw [if_pos e1] at hk
        rw [if_neg e2] at hk2
        subst e1
        rcases hloc with h3 | h3
        · rw [h3] at hk; exact n2 k hk hk2
        · have:=h3 k hk
          have:=own_lt (h.file h2).own hk2
          omega
    · rw [if_neg e1] at hk
      by_cases e2:j2=i
      · rw [if_pos e2] at hk2
        subst e2
        rcases hloc with h3 | h3
        · rw [h3] at hk2; exact n2 k hk hk2
        · have:=h3 k hk2
          have:=own_lt (h.file h1).own hk
          omega
      · rw [if_neg e2] at hk2; exact n2 k hk hk2
  · have:=h.hld q hq
    exact (show Holds w { F with files:=F.files.set i x } q from ⟨this.cr,this.fl⟩).to (fun k cs t fz hk ht=>key hk (fun e=>ht (by rw [e]; exact Or.inr (Or.inl rfl))) (fun e=>ht (by rw [e]; exact Or.inr (Or.inr (Or.inl rfl)))))
  · rcases hk with rfl | hk
    · exact own_file hl
    · exact Or.inr (Or.inr (Or.inr (Or.inl ⟨i,hl,Or.inr hk⟩)))
  · rcases hk with rfl | rfl | rfl | ⟨j,hlj,hk⟩ | hk | hk
    · exact Or.inl (Or.inl rfl)
    · exact Or.inl (Or.inr (Or.inl rfl))
    · exact Or.inl (Or.inr (Or.inr (Or.inl rfl)))
    · rcases hk with hk | hk
      · exact Or.inl (Or.inr (Or.inr (Or.inr (Or.inl ⟨j,hlj,Or.inl hk⟩))))
      · simp only [] at hk
        by_cases e:j=i
        · rw [if_pos e] at hk
          rcases hloc with h3 | h3
          · rw [h3] at hk; exact Or.inl (Or.inr (Or.inr (Or.inr (Or.inl ⟨i,hl,Or.inr hk⟩))))
          · exact Or.inr (h3 k hk)
        · rw [if_neg e] at hk; exact Or.inl (Or.inr (Or.inr (Or.inr (Or.inl ⟨j,hlj,Or.inr hk⟩))))
    · exact Or.inl (Or.inr (Or.inr (Or.inr (Or.inr (Or.inl hk)))))
    · exact Or.inl (Or.inr (Or.inr (Or.inr (Or.inr (Or.inr hk)))))
end Go.Proofs.YtbgbmfmgdgalbaaGreatDoor
namespace Go.Proofs.YtbgbmfmgdgalbaaGreatDoor
open Go.RowKit Go.Maps
set_option linter.unusedVariables false
set_option linter.unusedSimpArgs false
theorem nil_own (w:World):w.ownsRow 0 9 1 (.slice none 0 0) ([]:List ByteArray).length (psE.fl []):=⟨rfl,Or.inl ⟨rfl,rfl⟩⟩
theorem find0_any (g:Nat) (X:Gh) (F:Fs) (n:ByteArray) (hn:n.size ≤ 140737488355328) (w:World) (h:FsP w g X F):Calls Tryz.prog 112 #[ptr (some g),.string n,.slice none 0 0] w fun e w'=>e=.returned (.tuple #[(fndM F X n []).1,.int .i64 (hasM F n)])∧Below w.heap.size w w':=by
  refine (find_any g X F n hn (.slice none 0 0) [] (by decide) (fun s hs=>by cases hs) w h (nil_own w) (fun k hk=>by cases hk)).mono ?_
  rintro e w' ⟨rfl,hm,_⟩
  rw [fnd_has]
  exact ⟨rfl,hm.bel (fun k _ hk=>by cases hk) (Nat.le_refl _)⟩
set_option maxHeartbeats 2000000 in
set_option maxRecDepth 100000 in
theorem Sync_any (HGD:GoDownC) (g:Nat) (X:Gh) (F:Fs) (n:ByteArray) (hn:n.size ≤ 140737488355328) (w:World) (h:FsP w g X F) (hs:Sm F X) (hs1:F.steps < 3298534883328) (hpk:F.picks.length ≤ 17592186044416) :
    Calls Tryz.prog 144 #[ptr (some g),.string n] w fun e w'=>e=.returned (.int .i64 (syncM F n).2)∧∃ X',Bec w g X F w' X' (syncM F n).1:=by
  have HFI:Hid _:=find0_any g X F n hn w h
  by_cases h0:hasM F n=0
  · obtain ⟨hd,hnm,hf⟩:=has_zero.1 h0
    obtain ⟨i,hi1,hi2,hi3,hl⟩:=h.named hf
    have hy:=fnd_yes (X:=X) (os:=[]) hd (by simpa using hnm) hf
    rw [hy,h0,hi2] at HFI
    have HST:Hid (∀ W,Below w.heap.size w W → Calls Tryz.prog 110 #[ptr (some g),.func (.func 129) #[ptr (some (X.fb i))] #[]] W fun e w'=>StepP g X F W (fun w1 w'=>w'.heap[X.fb i]?=some (.cells #[.int .i64 ((i + 1:Nat):Int),X.pv i,.int .i64 ((F.files.getD i ⟨⟨#[]⟩,0⟩).d.size:Int),.int .i64 ((F.files.getD i ⟨⟨#[]⟩,0⟩).d.size:Int)] 85)∧Only w1 w' (X.fb i)) (fun _ w1 _ w'=>w'=w1) e w'):=fun W hb=>step_any HGD g X F 129 eM_sync #[ptr (some (X.fb i))] #[] _ W (h.on hb) hs hs1 hpk (fun w1 hm hF=>sync_any (X.fb i) _ _ _ _ w1 (hF.file hl).blk)
    have HFN:Hid (∀ W w' e,Below w.heap.size w W → StepP g X F W (fun w1 w'=>w'.heap[X.fb i]?=some (.cells #[.int .i64 ((i + 1:Nat):Int),X.pv i,.int .i64 ((F.files.getD i ⟨⟨#[]⟩,0⟩).d.size:Int),.int .i64 ((F.files.getD i ⟨⟨#[]⟩,0⟩).d.size:Int)] 85)∧Only w1 w' (X.fb i)) (fun _ w1 _ w'=>w'=w1) e w' → e=.returned (.int .i64 (syncM F n).2)∧∃ X',Bec w g X F w' X' (syncM F n).1):=fun W w' e hb hp=>by
      refine hp.fin hb (syncM F n) (fun a b=>?_) (fun a=>?_)
      · have hM:syncM F n=({ up1 F with files:=F.files.set i ⟨(F.files.getD i ⟨⟨#[]⟩,0⟩).d,(F.files.getD i ⟨⟨#[]⟩,0⟩).d.size⟩ },0):=by
          unfold syncM
          rw [if_pos h0]
          simp only []
          rw [if_pos a,b,hi2]; rfl
        rw [hM]
        refine ⟨rfl,fun w1 hm hF hpd=>?_⟩
        have hf1:=hF.file hl
        have hmd:ModP (fun k=>k=X.fb i ∨ (X.pv i).ownBlock=some k) w1 w':=ModP.only hpd.2 (Or.inl rfl)
        have hfile:FileAt w' (X.fb i) i ⟨(F.files.getD i ⟨⟨#[]⟩,0⟩).d,(F.files.getD i ⟨⟨#[]⟩,0⟩).d.size⟩ (X.pv i) (X.ps i):=⟨hpd.1,own_to hf1.own (fun k hk=>hpd.2.other k (hf1.ne hk)),hf1.jn,hf1.few,hf1.big,Nat.le_refl _⟩
        have hB:=hF.file_set hl hfile hmd (Or.inl rfl)
        exact ⟨_,hB.is,hm.andThen hB.md (fun j _ hj=>hj),fun k hk=>(hB.own k hk).imp id (fun q=>Nat.le_trans hm.size q),hB.len,fun q hq=>(hB.nq q hq).imp id (fun h6=>h6.le hm.size)⟩
      · unfold syncM
        rw [if_pos h0]
        simp only []
        rw [if_neg a]
    generalize X.fb i=bb at *
    clear h hs hs1 hpk hd hnm hf hi1 hi2 hi3 hl hy h0
    unfold ptr at HFI HST ⊢
    go_enter Tryz.func144,Tryz.ntmps144
    go_wp2_with fail
    refine (show Calls _ _ _ _ _ from HFI.out).mono ?_
    rintro e w1 ⟨rfl,hb1⟩
    have HB1:Hid (Below w.heap.size w w1):=hb1
    clear hb1
    go_wp2_with fail
    refine (show Calls _ _ _ _ _ from HST.out w1 HB1.out).mono ?_
    rintro e w2 hp
    obtain ⟨he,hB⟩:=HFN.out w1 w2 e HB1.out hp
    have HBB:Hid _:=hB
    subst he
    clear hp hB
    go_wp2
    go_returns
    exact ⟨rfl,HBB.out⟩
  · have hno:=fnd_no (F:=F) (X:=X) (n:=n) (os:=[]) (fun hh=>h0 (has_zero.2 ⟨hh.1,by simpa using hh.2.1,hh.2.2⟩))
    rw [hno.1] at HFI
    have hM:syncM F n=(F,hasM F n):=by unfold syncM; rw [if_neg h0]
    rw [hM]
    have HFP:Hid (FsP w g X F):=h
    obtain ⟨er,her⟩:∃ er,hasM F n=er:=⟨_,rfl⟩
    rw [her] at HFI h0 ⊢
    have hne:(er == 0)=false:=by simpa using h0
    clear h hs hs1 hpk hno hM her
    unfold ptr at HFI ⊢
    go_enter Tryz.func144,Tryz.ntmps144
    go_wp2_with fail
    refine (show Calls _ _ _ _ _ from HFI.out).mono ?_
    rintro e w1 ⟨rfl,hb1⟩
    have HB1:Hid (Below w.heap.size w w1):=hb1
    clear hb1
    go_wp2
    go_returns
    exact ⟨rfl,X,(Bec.refl (HFP.out.on HB1.out)).pre HB1.out⟩
end Go.Proofs.YtbgbmfmgdgalbaaGreatDoor
namespace Go.Proofs.YtbgbmfmgdgalbaaGreatDoor
open Go.RowKit Go.Maps
set_option linter.unusedVariables false
set_option linter.unusedSimpArgs false
theorem eM_rename (args:Array Value) (w:World):(callFunc 163 args).run Tryz.prog w=.ok (.enter 163 args) w:=by kernel_rfl
theorem eM_remove (args:Array Value) (w:World):(callFunc 115 args).run Tryz.prog w=.ok (.enter 115 args) w:=by kernel_rfl
theorem cell1 {W:World} {b T:Nat} {v:Value} (h:W.heap[b]?=some (.cells #[v] T)):W.cell? ⟨b,0,none⟩=some v:=by rw [cell_of_row _ _ _ _ _ _ h]; rfl
set_option maxHeartbeats 1000000 in
theorem Rename1_any (g b0 b1 b2 b3 T0 T1 T2 T3 fbk:Nat) (n t:ByteArray) (Po:World → Prop) (w:World) (h0:w.heap[b0]?=some (.cells #[ptr (some g)] T0)) (h1:w.heap[b1]?=some (.cells #[.string n] T1)) (h2:w.heap[b2]?=some (.cells #[.string t] T2)) (h3:w.heap[b3]?=some (.cells #[ptr (some fbk)] T3)) (hc:Calls Tryz.prog 116 #[ptr (some g),.agg #[.string n,.string t,ptr (some fbk)]] w fun e w'=>e=.returned (.tuple #[])∧Po w') :
    Calls Tryz.prog 163 #[.pointer (some ⟨b0,0,none⟩),.pointer (some ⟨b1,0,none⟩),.pointer (some ⟨b2,0,none⟩),.pointer (some ⟨b3,0,none⟩)] w fun e w'=>e=.returned (.tuple #[])∧Po w':=by
  have c0:=cell1 h0
  have c1:=cell1 h1
  have c2:=cell1 h2
  have c3:=cell1 h3
  have HC:Hid _:=hc
  clear hc h0 h1 h2 h3
  unfold ptr at c0 c3 HC
  go_enter Tryz.func163,Tryz.ntmps163
  go_wp2_with fail
  refine (show Calls _ _ _ _ _ from HC.out).mono ?_
  rintro e w1 ⟨rfl,hp⟩
  go_wp2
  go_end0
  exact ⟨rfl,hp⟩
set_option maxHeartbeats 1000000 in
theorem Remove1_any (g b0 b1 b2 T0 T1 T2 fbk:Nat) (n:ByteArray) (Po:World → Prop) (w:World) (h0:w.heap[b0]?=some (.cells #[ptr (some g)] T0)) (h1:w.heap[b1]?=some (.cells #[.string n] T1)) (h2:w.heap[b2]?=some (.cells #[ptr (some fbk)] T2)) (hc:Calls Tryz.prog 116 #[ptr (some g),.agg #[.string n,.string ⟨#[]⟩,ptr (some fbk)]] w fun e w'=>e=.returned (.tuple #[])∧Po w') :
    Calls Tryz.prog 115 #[.pointer (some ⟨b0,0,none⟩),.pointer (some ⟨b1,0,none⟩),.pointer (some ⟨b2,0,none⟩)] w fun e w'=>e=.returned (.tuple #[])∧Po w':=by
  have c0:=cell1 h0
  have c1:=cell1 h1
  have c2:=cell1 h2
  have HC:Hid _:=hc
  clear hc h0 h1 h2
  unfold ptr at c0 c2 HC
  go_enter Tryz.func115,Tryz.ntmps115
  go_wp2_with fail
  refine (show Calls _ _ _ _ _ from HC.out).mono ?_
  rintro e w1 ⟨rfl,hp⟩
  go_wp2
  go_end0
  exact ⟨rfl,hp⟩
def ChgF (g:Nat) (X:Gh) (F:Fs) (c:Ch) (i:Nat) (w w':World):Prop:=∃ cv',FsP w' g { X with cv:=cv',cf:=X.cf ++ [i] } (changeM F c)∧ModP (Own g F X) w w'∧∀ k,Own g (changeM F c) { X with cv:=cv',cf:=X.cf ++ [i] } k → Own g F X k ∨ k=X.fb i ∨ (X.pv i).ownBlock=some k ∨ w.heap.size ≤ k
theorem ChgF.bec {g:Nat} {X:Gh} {F F1:Fs} {c:Ch} {i:Nat} {W w1 w':World} (h:ChgF g X F1 c i w1 w') (hl:Live F X i) (hL:∀ j,Live F1 X j ↔ Live F X j) (hm:ModP (Own g F X) W w1):∃ X',Bec W g X F w' X' (changeM F1 c):=by
  obtain ⟨cv',h1,h2,h3⟩:=h
  have ho:∀ k,Own g F1 X k ↔ Own g F X k:=fun k=>by
    unfold Own
    constructor
    · rintro (h | h | h | ⟨j,hj,h⟩ | h | h)
      · exact Or.inl h
      · exact Or.inr (Or.inl h)
      · exact Or.inr (Or.inr (Or.inl h))
      · exact Or.inr (Or.inr (Or.inr (Or.inl ⟨j,(hL j).1 hj,h⟩)))
      · exact Or.inr (Or.inr (Or.inr (Or.inr (Or.inl h))))
      · exact Or.inr (Or.inr (Or.inr (Or.inr (Or.inr h))))
    · rintro (h | h | h | ⟨j,hj,h⟩ | h | h)
      · exact Or.inl h
      · exact Or.inr (Or.inl h)
      · exact Or.inr (Or.inr (Or.inl h))
      · exact Or.inr (Or.inr (Or.inr (Or.inl ⟨j,(hL j).2 hj,h⟩)))
      · exact Or.inr (Or.inr (Or.inr (Or.inr (Or.inl h))))
      · exact Or.inr (Or.inr (Or.inr (Or.inr (Or.inr h))))
  refine ⟨_,h1,hm.andThen h2 (fun j _ hj=>(ho j).1 hj),fun k hk=>?_,by simp,fun q hq=>Or.inl hq⟩
  rcases h3 k hk with h | h | h | h
  · exact Or.inl ((ho k).1 h)
  · exact Or.inl (by rw [h]; exact own_file hl)
  · exact Or.inl (Or.inr (Or.inr (Or.inr (Or.inl ⟨i,hl,Or.inr h⟩))))
  · exact Or.inr (Nat.le_trans hm.size h)
theorem cok_remove {F:Fs} (hd:DOk F.dir F.files.length) {n:ByteArray} (hn:namedM n=true) (i:Nat):COk F ⟨n,⟨#[]⟩,-1⟩ i:=
  ⟨Or.inl (show (-1:Int) < 0 by decide),hn,Or.inl rfl,fun h=>absurd rfl h,by
    have e:afterM F.dir ⟨n,⟨#[]⟩,-1⟩=boundM F.dir n (-1):=if_pos rfl
    rw [e]; exact hd.del n (by decide)⟩
theorem cok_rename {F:Fs} (hd:DOk F.dir F.files.length) {n t:ByteArray} (hn:namedM n=true) (ht:namedM t=true) {i:Nat} (hi:findM F.dir n=(i:Int)) (hl:i < F.files.length):COk F ⟨n,t,(i:Int)⟩ i:=by
  have h0:¬ t.size=0:=by have:=(named_size ht).1; omega
  refine ⟨Or.inr rfl,hn,Or.inr ht,fun _=>rfl,?_⟩
  have e:afterM F.dir ⟨n,t,(i:Int)⟩=boundM (boundM F.dir n (-1)) t (i:Int):=if_neg h0
  rw [e]
  obtain ⟨x,hx,e1,e2⟩:=findM_mem (d:=F.dir) (n:=n) (by omega)
  have hd1:=hd.del n (f:=-1) (by decide)
  refine hd1.put ht (by omega) (by omega) (fun y hy _ e3=>?_) (Or.inl ?_)
  · rw [bound_del (by decide)] at hy
    obtain ⟨hy1,hy2⟩:=List.mem_filter.1 hy
    have hne:y ≠ x:=fun e4=>by subst e4; simp [e1] at hy2
    exact pair_ne hd.uni hy1 hx hne (by omega)
  · rw [bound_del (by decide)]
    have h1:=hd.few
    have:(F.dir.filter fun x=>decide (x.1 ≠ n)).length < F.dir.length:=by
      have h2:=List.length_filter_lt_length_iff_exists (p:=fun x:Sl=>decide (x.1 ≠ n)) (l:=F.dir)
      exact h2.2 ⟨x,hx,by simp [e1]⟩
    omega
end Go.Proofs.YtbgbmfmgdgalbaaGreatDoor
