import Derived.Test.YtbgbmfmgdgalbaaGreatDoorM07
import Derived.Test.YtbgbmfmgdgalbaaGreatDoorM04
namespace Go.Proofs.YtbgbmfmgdgalbaaGreatDoor
open Go.RowKit Go.Maps
set_option linter.unusedVariables false
set_option linter.unusedSimpArgs false
structure COk (F:Fs) (c:Ch) (i:Nat):Prop where
  f:c.f < 0 ∨ c.f=(i:Int)
  n:namedM c.n=true
  t:c.t.size=0 ∨ namedM c.t=true
  tf:c.t.size ≠ 0 → c.f=(i:Int)
  d:DOk (afterM F.dir c) F.files.length
theorem dirF_no {d:List Sl} {N:Nat} (h:DOk d N) (fb:Nat → Nat) {m:ByteArray} (hm:namedM m=false):dirF d fb m=none:=by
  unfold dirF
  rw [if_pos]
  have:=findM_none (d:=d) (n:=m) (fun x hx e=>by have:=h.nam x hx; rw [e,hm] at this; cases this)
  omega
theorem updM_same {f:ByteArray → Option Nat} {m:ByteArray} (h:f m=none):updM f m none=f:=by
  funext x; unfold updM
  by_cases e:x=m
  · rw [if_pos e,e,h]
  · rw [if_neg e]
theorem named_mt:namedM ⟨#[]⟩=false:=by decide
theorem dirF_after {d:List Sl} {N:Nat} (hd:DOk d N) (fb:Nat → Nat) (c:Ch) (i:Nat) (hf:c.f < 0 ∨ c.f=(i:Int)) (hn:namedM c.n=true) (ht:c.t.size=0 ∨ namedM c.t=true) (htf:c.t.size ≠ 0 → c.f=(i:Int)):dirF (afterM d c) fb=apF (dirF d fb) (pcOf c (fb i)).n (pcOf c (fb i)).t (pcOf c (fb i)).b:=by
  unfold afterM pcOf
  by_cases h0:c.t.size=0
  · rw [if_pos h0,if_pos h0]
    by_cases hf0:c.f < 0
    · rw [if_pos hf0]
      simp only []
      have e:apF (dirF d fb) c.n ⟨#[]⟩ (fb i)=updM (dirF d fb) c.n none:=if_pos rfl
      rw [e]
      funext m
      unfold dirF updM
      rw [findM_del d c.n m c.f hf0]
      by_cases hm:m=c.n
      · rw [if_pos hm,if_pos hm]; rfl
      · rw [if_neg hm,if_neg hm]
    · rw [if_neg hf0]
      simp only []
      have hnn:=(named_size hn).1
      have e:apF (dirF d fb) ⟨#[]⟩ c.n (fb i)=updM (updM (dirF d fb) ⟨#[]⟩ none) c.n (some (fb i)):=if_neg (by omega)
      rw [e,updM_same (dirF_no hd fb named_mt)]
      have hfi:c.f=(i:Int):=by rcases hf with h | h; exact absurd h hf0; exact h
      funext m
      unfold dirF updM
      rw [findM_put hd.rise c.n m c.f hf0]
      by_cases hm:m=c.n
      · rw [if_pos hm,if_pos hm,if_neg hf0,hfi]; rfl
      · rw [if_neg hm,if_neg hm]
  · rw [if_neg h0,if_neg h0]
    simp only []
    have hfi:=htf h0
    have e:apF (dirF d fb) c.n c.t (fb i)=updM (updM (dirF d fb) c.n none) c.t (some (fb i)):=if_neg h0
    rw [e]
    have hd1:=hd.del c.n (f:=-1) (by omega)
    funext m
    unfold dirF updM
    rw [findM_put hd1.rise c.t m c.f (by omega),findM_del d c.n m (-1) (by omega)]
    by_cases hm:m=c.t
    · rw [if_pos hm,if_pos hm,if_neg (by omega),hfi]; rfl
    · rw [if_neg hm,if_neg hm]
      by_cases hm2:m=c.n
      · rw [if_pos hm2,if_pos hm2]; rfl
      · rw [if_neg hm2,if_neg hm2]
theorem FOk.change {F:Fs} {cf:List Nat} (h:FOk F cf) {c:Ch} {i:Nat} (hc:COk F c i) (hi:i < F.files.length):FOk (changeM F c) (cf ++ [i]):=by
  have hk:∀ k,k ≤ F.chg.length → dirK (changeM F c) k=dirK F k:=fun k hk=>by
    unfold dirK changeM
    simp only []
    rw [List.take_append_of_le_length hk]
  have hl:dirK (changeM F c) (F.chg.length + 1)=afterM F.dir c:=by
    unfold dirK changeM
    simp only []
    rw [List.take_of_length_le (by simp),List.foldl_append]
    have:=h.now
    unfold dirK at this
    rw [List.take_length] at this
    rw [this]; rfl
  have hln:(changeM F c).chg.length=F.chg.length + 1:=by unfold changeM; simp
  refine ⟨fun k hk'=>?_,?_,?_,fun j hj=>?_,fun x hx=>?_⟩
  · rcases Nat.lt_or_ge k (F.chg.length + 1) with h1 | h1
    · rw [hk k (by omega)]; exact h.dirs k (by omega)
    · have:k=F.chg.length + 1:=by omega
      subst this
      rw [hl]; exact hc.d
  · rw [hln,hl]; rfl
  · rw [hln,List.length_append,h.cl]; rfl
  · rcases List.mem_append.1 hj with hj | hj
    · exact h.cfl j hj
    · simp at hj; subst hj; exact hi
  · have e:(changeM F c).chg.zip (cf ++ [i])=F.chg.zip cf ++ [(c,i)]:=by
      unfold changeM
      simp only []
      rw [List.zip_append h.cl.symm]; rfl
    rw [e] at hx
    rcases List.mem_append.1 hx with hx | hx
    · exact h.ch x hx
    · simp at hx; subst hx; exact ⟨hc.f,hc.n,hc.t,hc.tf⟩
end Go.Proofs.YtbgbmfmgdgalbaaGreatDoor
namespace Go.Proofs.YtbgbmfmgdgalbaaGreatDoor
open Go.RowKit Go.Maps
set_option linter.unusedVariables false
set_option linter.unusedSimpArgs false
theorem bound_mem {d:List Sl} (hd:d.Pairwise fun a b=>ltB a.1 b.1=true) {n:ByteArray} {f:Int} {x:Sl} (hx:x ∈ boundM d n f):x ∈ d ∨ (x.2=f∧¬ f < 0):=by
  by_cases hf:f < 0
  · rw [bound_del hf] at hx; exact Or.inl (List.mem_filter.1 hx).1
  · rw [bound_put hf hd] at hx
    rcases List.mem_append.1 hx with hx | hx
    · exact Or.inl (List.mem_filter.1 hx).1
    · rcases List.mem_cons.1 hx with rfl | hx
      · exact Or.inr ⟨rfl,hf⟩
      · exact Or.inl (List.mem_filter.1 hx).1
theorem after_mem {d:List Sl} {N:Nat} (hd:DOk d N) {c:Ch} {x:Sl} (hx:x ∈ afterM d c):x ∈ d ∨ (x.2=c.f∧¬ c.f < 0):=by
  unfold afterM at hx
  split at hx
  · exact bound_mem hd.rise hx
  · rcases bound_mem (hd.del c.n (f:=-1) (by omega)).rise hx with h | h
    · rcases bound_mem hd.rise h with h | h
      · exact Or.inl h
      · exact absurd h.2 (by omega)
    · exact Or.inr h
theorem live_change {F:Fs} {X:Gh} {cv:Value} {c:Ch} {i:Nat} (hd:DOk F.dir F.files.length) (hf:c.f < 0 ∨ c.f=(i:Int)) {j:Nat} (h:Live (changeM F c) { X with cv:=cv,cf:=X.cf ++ [i] } j):Live F X j ∨ j=i:=by
  rcases h with ⟨x,hx,e⟩ | h | h
  · rcases after_mem hd (show x ∈ afterM F.dir c from hx) with h1 | ⟨h1,h2⟩
    · exact Or.inl (Or.inl ⟨x,h1,e⟩)
    · right; rcases hf with h3 | h3
      · exact absurd h3 h2
      · omega
  · exact Or.inl (Or.inr (Or.inl h))
  · rcases List.mem_append.1 h with h | h
    · exact Or.inl (Or.inr (Or.inr h))
    · simp at h; exact Or.inr h
theorem FsP.change {w w':World} {g:Nat} {X:Gh} {F:Fs} {c:Ch} {i:Nat} {x:Fi} (h:FsP w g X F) (hc:COk F c i) (hx:F.files[i]?=some x) (hfi:FileAt w (X.fb i) i x (X.pv i) (X.ps i)) (hinj:∀ j,Live F X j → j ≠ i → X.fb j ≠ X.fb i∧∀ k,(X.pv j).ownBlock=some k → (X.pv i).ownBlock ≠ some k)
    (hp:ChgP w g (.bool F.down) (.int .i64 (F.steps:Int)) (.int .i64 (F.files.length:Int)) (.map (some X.ms)) X.qv X.mn (dirF F.dir X.fb) X.cv (chgL F X) (pcOf c (X.fb i)) w') :
    ∃ cv',FsP w' g { X with cv:=cv',cf:=X.cf ++ [i] } (changeM F c)∧ModP (Own g F X) w w'∧∀ k,Own g (changeM F c) { X with cv:=cv',cf:=X.cf ++ [i] } k → Own g F X k ∨ k=X.fb i ∨ (X.pv i).ownBlock=some k ∨ w.heap.size ≤ k:=by
  obtain ⟨cv',hb,⟨km,hm⟩,hcv,hmd,hloc⟩:=hp
  have hi:i < F.files.length:=(List.getElem?_eq_some_iff.1 hx).1
  have hne:=h.ne_g
  have key:∀ {k:Nat} {cs:Array Value} {t:Nat} {fz:Nat × Nat},w.heap[k]?=some (.cells cs t fz) → t ≠ 74 → t ≠ 100 → w'.heap[k]?=w.heap[k]?:=fun {k cs t fz} hk h1 h2=>hmd.oth k (row_lt hk) (fun hs=>by
    rcases hs with rfl | rfl | hs
    · have:=hk.symm.trans h.blk
      injection this with this
      injection this with _ h3
      exact h1 h3
    · obtain ⟨es,cl,h3⟩:=h.now_k.obj; rw [h3] at hk; cases hk
    · obtain ⟨cur,hc'⟩:=own_type h.chg hs
      have:=hk.symm.trans hc'
      injection this with this
      injection this with _ h3
      exact h2 h3)
  have hms:w'.heap[X.ms]?=w.heap[X.ms]?:=hmd.oth X.ms h.safe_k.lt (fun hs=>by
    rcases hs with e | e | hs
    · exact hne.2.1 e
    · exact h.mne e.symm
    · obtain ⟨cur,hc'⟩:=own_type h.chg hs
      exact h.safe_k.ne hc' rfl)
  have hfile:∀ j y,(Live F X j ∨ j=i) → F.files[j]?=some y → FileAt w' (X.fb j) j y (X.pv j) (X.ps j):=fun j y hl hy=>by
    have hf:FileAt w (X.fb j) j y (X.pv j) (X.ps j):=by
      by_cases e:j=i
      · subst e; rw [hx] at hy; cases hy; exact hfi
      · rcases hl with hl | hl
        · exact h.fil j y hl hy
        · exact absurd hl e
    refine hf.to (key hf.blk (by decide) (by decide)) (fun k hk=>?_)
    obtain ⟨cur,hc'⟩:=own_type hf.own hk
    exact key hc' (by decide) (by decide)
  have hcl:chgL (changeM F c) { X with cv:=cv',cf:=X.cf ++ [i] }=chgL F X ++ [pcOf c (X.fb i)]:=by
    unfold chgL changeM
    simp only []
    rw [List.zip_append h.ok.cl.symm,List.map_append]; rfl
  have hlen:(chgL F X).length=F.chg.length:=by unfold chgL; rw [List.length_map,List.length_zip,h.ok.cl]; omega
  obtain ⟨ks,hs⟩:=h.safe
  refine ⟨cv',⟨⟨h.ok.change hc hi,hb,⟨km,?_⟩,⟨ks,hs.to hms⟩,h.mne,?_,h.row.to (fun k hk=>by obtain ⟨cur,hc'⟩:=h.row.type hk; exact key hc' (by decide) (by decide)),fun j y hl hy=>hfile j y (live_change h.ok.dir hc.f hl) hy,fun j1 j2 h1 h2 hn=>?_⟩,⟨h.pln.srt,h.pln.ahead,h.pln.all,h.pln.cr⟩,fun q hq=>?_⟩,hmd.weak (fun k _ hk=>?_),fun k hk=>?_⟩
  · rw [← dirF_after h.ok.dir X.fb c i hc.f hc.n hc.t hc.tf] at hm; exact hm
  · rw [hcl]
    have e:(changeM F c).chg.length=(chgL F X).length + 1:=by rw [hlen]; unfold changeM; simp
    rw [e]; exact hcv
  · rcases live_change h.ok.dir hc.f h1 with h3 | h3 <;> rcases live_change h.ok.dir hc.f h2 with h4 | h4
    · exact h.inj j1 j2 h3 h4 hn
    · subst h4; exact hinj j1 h3 hn
    · subst h3
      obtain ⟨a,b⟩:=hinj j2 h4 (Ne.symm hn)
      exact ⟨Ne.symm a,fun k hk hk'=>b k hk' hk⟩
    · omega
  · have:=h.hld q hq
    refine (show Holds w (changeM F c) q from ⟨this.cr,this.fl⟩).to (fun k cs t fz hk ht=>key hk (fun e=>ht (by rw [e]; exact Or.inl rfl)) (fun e=>ht (by rw [e]; exact Or.inr (Or.inr (Or.inr (Or.inl rfl))))))
  · rcases hk with rfl | rfl | hk
    · exact Or.inl rfl
    · exact Or.inr (Or.inl rfl)
    · exact Or.inr (Or.inr (Or.inr (Or.inr (Or.inl hk))))
  · rcases hk with rfl | rfl | rfl | ⟨j,hl,hk⟩ | hk | hk
    · exact Or.inl (Or.inl rfl)
    · exact Or.inl (Or.inr (Or.inl rfl))
    · exact Or.inl (Or.inr (Or.inr (Or.inl rfl)))
    · rcases live_change h.ok.dir hc.f hl with h1 | h1
      · exact Or.inl (Or.inr (Or.inr (Or.inr (Or.inl ⟨j,h1,hk⟩))))
      · subst h1
        rcases hk with hk | hk
        · exact Or.inr (Or.inl hk)
        · exact Or.inr (Or.inr (Or.inl hk))
    · rcases hloc k hk with h1 | h1
      · exact Or.inl (Or.inr (Or.inr (Or.inr (Or.inr (Or.inl h1)))))
      · exact Or.inr (Or.inr (Or.inr h1))
    · exact Or.inl (Or.inr (Or.inr (Or.inr (Or.inr (Or.inr hk)))))
theorem changeF_any (g:Nat) (X:Gh) (F:Fs) (c:Ch) (i:Nat) (x:Fi) (w:World) (h:FsP w g X F) (hs:Sm F X) (hc:COk F c i) (hx:F.files[i]?=some x) (hfi:FileAt w (X.fb i) i x (X.pv i) (X.ps i)) (hinj:∀ j,Live F X j → j ≠ i → X.fb j ≠ X.fb i∧∀ k,(X.pv j).ownBlock=some k → (X.pv i).ownBlock ≠ some k) :
    Calls Tryz.prog 116 #[ptr (some g),.agg #[.string (pcOf c (X.fb i)).n,.string (pcOf c (X.fb i)).t,ptr (some (X.fb i))]] w fun e w'=>e=.returned (.tuple #[])∧∃ cv',FsP w' g { X with cv:=cv',cf:=X.cf ++ [i] } (changeM F c)∧ModP (Own g F X) w w'∧∀ k,Own g (changeM F c) { X with cv:=cv',cf:=X.cf ++ [i] } k → Own g F X k ∨ k=X.fb i ∨ (X.pv i).ownBlock=some k ∨ w.heap.size ≤ k:=by
  have hb:(pcOf c (X.fb i)).b=X.fb i:=by unfold pcOf; split <;> (try split) <;> rfl
  have hnn:=named_size hc.n
  have hsz:(pcOf c (X.fb i)).n.size ≤ 64∧(pcOf c (X.fb i)).t.size ≤ 64:=by
    unfold pcOf
    split
    · split
      · exact ⟨hnn.2,Nat.zero_le _⟩
      · exact ⟨Nat.zero_le _,hnn.2⟩
    · rename_i h0
      refine ⟨hnn.2,?_⟩
      rcases hc.t with h1 | h1
      · exact absurd h1 h0
      · exact (named_size h1).2
  have hlen:(chgL F X).length=F.chg.length:=by unfold chgL; rw [List.length_map,List.length_zip,h.ok.cl]; omega
  have hfew:=h.ok.dir.few
  have:=change_any g (.bool F.down) (.int .i64 (F.steps:Int)) (.int .i64 (F.files.length:Int)) (.map (some X.ms)) X.qv X.mn F.dir.length (dirF F.dir X.fb) X.cv (chgL F X) (pcOf c (X.fb i)) (by omega) (by omega) (by omega) (by rw [hlen]; exact hs.ch) w h.blk h.now_k (by rw [hlen]; exact h.chg)
  rw [hb] at this
  refine this.mono ?_
  rintro e w' ⟨rfl,hp⟩
  exact ⟨rfl,h.change hc hx hfi hinj hp⟩
end Go.Proofs.YtbgbmfmgdgalbaaGreatDoor
namespace Go.Proofs.YtbgbmfmgdgalbaaGreatDoor
open Go.RowKit Go.Maps
set_option linter.unusedVariables false
set_option linter.unusedSimpArgs false
set_option maxHeartbeats 1000000 in
theorem check1_any (s:ByteArray) (hs:s.size ≤ 140737488355328) (w:World):Calls Tryz.prog 148 #[.string s] w fun e w'=>e=.returned (.bool (!namedM s))∧w'=w:=by
  have HI:Hid _:=isName_any s hs w
  go_enter Tryz.func148,Tryz.ntmps148
  go_wp2_with fail
  refine (show Calls _ _ _ _ _ from HI.out).mono ?_
  rintro e w1 ⟨rfl,rfl⟩
  go_wp2
  go_ret
  exact ⟨rfl,rfl⟩
set_option maxHeartbeats 1000000 in
theorem indexS_any (v:Value) (l:List ByteArray) (hl:l.length ≤ 1048576) (hs:∀ s ∈ l,s.size ≤ 140737488355328) (w:World) (h:KR psE w v l) :
    Calls Tryz.prog 164 #[v,.func (.func 148) #[] #[]] w fun e w'=>w'=w∧∃ z:Int,e=.returned (.int .i64 z)∧(decide (0 ≤ z)=!l.all namedM):=by
  obtain ⟨P,c,rfl⟩:=h.form
  have H:Hid (KR psE w (.slice P l.length c) l):=h
  have HS:Hid (∀ s ∈ l,s.size ≤ 140737488355328):=hs
  clear h hs
  go_enter Tryz.func164,Tryz.ntmps164
  go_wp2
  go_loopw [8] (fun ci wr=>wr=w∧∃ i:Nat,i ≤ l.length∧ci=.int .i64 (i:Int)∧(l.take i).all namedM=true) (fun ci _=>l.length - (intOf ci).toNat)
  case atStart=>exact ⟨rfl,0,by omega,rfl,rfl⟩
  case round =>
    obtain ⟨rfl,i,hi,rfl,hall⟩:=hrel
    by_cases hlt:i < l.length
    · obtain ⟨g,o,c',he,hc⟩:=H.out.cell psOk hlt
      injection he with he1 _ he2
      subst he1
      have c0:wr.cell? ⟨g,o + i * 1,none⟩=some (.string l[i]):=hc 0 _ rfl
      rw [Nat.mul_one] at c0
      have hz0:(0:Int) ≤ (i:Int):=by omega
      have hz1:(i:Int) < (l.length:Int):=by omega
      have hiw:IntKind.i64.wrap ((i:Int) + 1)=(i:Int) + 1:=by rw [IntKind.wrap_i64] <;> omega
      have HTK:Hid (∀ b,namedM l[i]=b → (l.take (i + 1)).all namedM=b):=fun b hb=>by
        rw [List.take_add_one,List.getElem?_eq_getElem hlt,List.all_append,hall]; simp [hb]
      have HBAD:Hid (namedM l[i]=false → l.all namedM=false):=fun hb=>by
        rw [List.all_eq_false]; exact ⟨l[i],List.getElem_mem hlt,by simp [hb]⟩
      obtain ⟨b,hb⟩:∃ b,namedM l[i]=b:=⟨_,rfl⟩
      have HC:Hid _:=check1_any l[i] (HS.out _ (List.getElem_mem hlt)) wr
      rw [hb] at HC
      have HB:Hid (namedM l[i]=b):=hb
      generalize l[i]=Y at c0 HC
      clear hc he2 hall hb
      go_wp2_with fail
      refine (show Calls _ _ _ _ _ from HC.out).mono ?_
      rintro e w1 ⟨rfl,rfl⟩
      cases b with
      | true =>
        go_wp2
        go_roundw
        case rel=>exact ⟨trivial,i + 1,hlt,rfl,HTK.out _ HB.out⟩
        case measure=>simp [intOf]; omega
      | false =>
        go_wp2
        go_returns
        exact ⟨rfl,(i:Int),rfl,by rw [HBAD.out HB.out]; simp⟩
    · have he:i=l.length:=by omega
      subst he
      rw [List.take_length] at hall
      have HA:Hid (l.all namedM=true):=hall
      clear hall
      go_wp2
      go_returns
      exact ⟨rfl,-1,rfl,by rw [HA.out]; rfl⟩
set_option maxHeartbeats 1000000 in
theorem contS_any (v:Value) (l:List ByteArray) (hl:l.length ≤ 1048576) (hs:∀ s ∈ l,s.size ≤ 140737488355328) (w:World) (h:KR psE w v l) :
    Calls Tryz.prog 147 #[v,.func (.func 148) #[] #[]] w fun e w'=>e=.returned (.bool (!l.all namedM))∧w'=w:=by
  have HI:Hid _:=indexS_any v l hl hs w h
  obtain ⟨P,c,rfl⟩:=h.form
  clear h
  go_enter Tryz.func147,Tryz.ntmps147
  go_wp2_with fail
  refine (show Calls _ _ _ _ _ from HI.out).mono ?_
  rintro e w1 ⟨rfl,z,rfl,hz⟩
  have HZ:Hid (decide (0 ≤ z)=!l.all namedM):=hz
  clear hz
  go_wp2
  go_returns
  refine ⟨?_,rfl⟩
  rw [← HZ.out]; rfl
def chkM (F:Fs) (l:List ByteArray):Int:=if F.down then 203 else if l.all namedM then 0 else 202
set_option maxHeartbeats 1000000 in
theorem check_any (g:Nat) (X:Gh) (F:Fs) (v:Value) (l:List ByteArray) (hl:l.length ≤ 1048576) (hs:∀ s ∈ l,s.size ≤ 140737488355328) (w:World) (h:FsP w g X F) (hv:KR psE w v l) :
    Calls Tryz.prog 109 #[ptr (some g),v] w fun e w'=>e=.returned (.int .i64 (chkM F l))∧w'=w:=by
  obtain ⟨c0,_⟩:=h.cells
  have HC:Hid _:=contS_any v l hl hs w hv
  obtain ⟨P,c,rfl⟩:=hv.form
  clear h hv
  unfold ptr
  obtain ⟨dn,hdn⟩:∃ dn,F.down=dn:=⟨_,rfl⟩
  have HCK:Hid (chkM F l=if dn then 203 else if l.all namedM then 0 else 202):=by show _=_; unfold chkM; rw [hdn]
  rw [hdn] at c0
  clear hdn
  obtain ⟨al,hal⟩:∃ al,l.all namedM=al:=⟨_,rfl⟩
  rw [hal] at HC HCK
  clear hal
  cases dn with
  | true =>
    go_enter Tryz.func109,Tryz.ntmps109
    go_wp2
    go_returns
    exact ⟨by rw [HCK.out]; rfl,rfl⟩
  | false =>
    go_enter Tryz.func109,Tryz.ntmps109
    go_wp2_with fail
    refine (show Calls _ _ _ _ _ from HC.out).mono ?_
    rintro e w1 ⟨rfl,rfl⟩
    cases al with
    | true =>
      go_wp2
      go_returns
      exact ⟨by rw [HCK.out]; rfl,rfl⟩
    | false =>
      go_wp2
      go_returns
      exact ⟨by rw [HCK.out]; rfl,rfl⟩
end Go.Proofs.YtbgbmfmgdgalbaaGreatDoor
namespace Go.Proofs.YtbgbmfmgdgalbaaGreatDoor
open Go.RowKit Go.Maps
set_option linter.unusedVariables false
set_option linter.unusedSimpArgs false
def fndM (F:Fs) (X:Gh) (n:ByteArray) (os:List ByteArray):Value × Int:=if chkM F (os ++ [n])=0 then (if findM F.dir n < 0 then (.pointer none,201) else (ptr (some (X.fb (findM F.dir n).toNat)),0)) else (.pointer none,chkM F (os ++ [n]))
set_option maxHeartbeats 2000000 in
set_option maxRecDepth 100000 in
theorem find_any (g:Nat) (X:Gh) (F:Fs) (n:ByteArray) (hn:n.size ≤ 140737488355328) (v:Value) (os:List ByteArray) (ho:os.length ≤ 4) (hs:∀ s ∈ os,s.size ≤ 140737488355328) (w:World) (h:FsP w g X F) (hv:w.ownsRow 0 9 1 v os.length (psE.fl os)) (hfree:∀ k,v.ownBlock=some k → ¬ Own g F X k) :
    Calls Tryz.prog 112 #[ptr (some g),.string n,v] w fun e w'=>e=.returned (.tuple #[(fndM F X n os).1,.int .i64 (fndM F X n os).2])∧ModP (fun k=>v.ownBlock=some k) w w'∧FsP w' g X F:=by
  obtain ⟨P,c,rfl⟩:=own_form hv
  have H:Hid (FsP w g X F):=h
  have HV:Hid (w.ownsRow 0 9 1 (.slice P os.length c) os.length (psE.fl os)):=hv
  have HFR:Hid (∀ k,(Value.slice P os.length c).ownBlock=some k → ¬ Own g F X k):=hfree
  have HS:Hid (∀ s ∈ os ++ [n],s.size ≤ 140737488355328):=fun s hm=>by
    rcases List.mem_append.1 hm with hm | hm
    · exact hs s hm
    · simp at hm; subst hm; exact hn
  clear h hv hfree hs
  unfold ptr
  go_enter Tryz.func112,Tryz.ntmps112
  go_wp2_with (at_builtin; refine wpList_one psOk #[.string n] n rfl rfl _ _ rfl 0 _ os os.length rfl rfl HV.out rfl (by unfold maxLen; omega) (by show _ * 16 ≤ _; omega) (Nat.zero_le _) ?_; intro v1 w1 ho1 hg1; obtain ⟨P1,c1,hf1⟩:=own_form ho1; subst hf1)
  have hm1:ModP (fun k=>(Value.slice P os.length c).ownBlock=some k) w w1:=(ModP.below ((Below.refl _ _).alloc (Nat.le_refl _) (.cells #[.string n] 9))).trans (ModP.grown hg1 (fun b hb=>hb))
  have hF1:FsP w1 g X F:=H.out.mod hm1 HFR.out (fun k cs t fz hk hb=>by
    obtain ⟨cur,hc⟩:=own_type HV.out hk
    have:=hb.symm.trans hc
    injection this with this
    injection this with _ h2
    rw [h2]; exact Or.inr (Or.inr (Or.inl rfl)))
  have HCK:Hid _:=check_any g X F (.slice P1 (os.length + 1) c1) (os ++ [n]) (by rw [List.length_append]; simp; omega) HS.out w1 hF1 (KR.own (E:=psE) (n:=os.length + 1) ho1 (by simp))
  have HF1:Hid (FsP w1 g X F):=hF1
  have HM1:Hid (ModP (fun k=>(Value.slice P os.length c).ownBlock=some k) w w1):=hm1
  obtain ⟨ck,hck⟩:∃ ck,chkM F (os ++ [n])=ck:=⟨_,rfl⟩
  have HFN:Hid (fndM F X n os=if ck=0 then (if findM F.dir n < 0 then (.pointer none,201) else (ptr (some (X.fb (findM F.dir n).toNat)),0)) else (.pointer none,ck)):=by show _=_; unfold fndM; rw [hck]
  have hlk:=hF1.now_k.look (m:=n) (by unfold maxLen; omega)
  obtain ⟨_,_,_,c3,_⟩:=hF1.cells
  rw [hck] at HCK
  clear hm1 hF1 ho1 hg1 hck
  unfold ptr at HCK
  refine (show Calls _ _ _ _ _ from HCK.out).mono ?_
  rintro e w2 ⟨rfl,rfl⟩
  by_cases h0:ck=0
  · subst h0
    rw [if_pos rfl] at HFN
    by_cases hf:findM F.dir n < 0
    · rw [if_pos hf] at HFN
      have e:dirF F.dir X.fb n=none:=if_pos hf
      rw [e] at hlk
      unfold ptr at hlk
      go_wp2
      go_returns
      exact ⟨by rw [HFN.out]; rfl,HM1.out,HF1.out⟩
    · rw [if_neg hf] at HFN
      have e:dirF F.dir X.fb n=some (X.fb (findM F.dir n).toNat):=if_neg hf
      rw [e] at hlk
      generalize X.fb (findM F.dir n).toNat=bb at *
      clear e hf
      unfold ptr at hlk
      go_wp2
      go_returns
      exact ⟨by rw [HFN.out]; rfl,HM1.out,HF1.out⟩
  · rw [if_neg h0] at HFN
    have hne:(ck == 0)=false:=by simpa using h0
    clear hlk c3
    go_wp2
    go_returns
    exact ⟨by rw [HFN.out]; rfl,HM1.out,HF1.out⟩
end Go.Proofs.YtbgbmfmgdgalbaaGreatDoor
