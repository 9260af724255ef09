import Derived.Test.YtbgbmfmgdgalbaaGreatDoorM22
namespace Go.Proofs.YtbgbmfmgdgalbaaGreatDoor
open Go.RowKit Go.Maps
set_option linter.unusedVariables false
set_option linter.unusedSimpArgs false
structure On (N:Nat) (F:Fs):Prop where
  up:F.down=false
  cr:F.crash=0
  fl:∀ f ∈ F.fails,f.1=(N:Int)
theorem On.step {N:Nat} {F:Fs} (h:On N F):(stepM F).1=up1 F∧((stepM F).2.1=0 ∨ ((stepM F).2.1=200∧N=F.steps + 1)):=by
  unfold stepM
  simp only []
  rw [if_neg (by rw [h.cr]; omega)]
  rcases hf:failM F.fails (F.steps + 1) with _ | p
  · exact ⟨rfl,Or.inl rfl⟩
  · refine ⟨rfl,Or.inr ⟨rfl,?_⟩⟩
    unfold failM at hf
    rcases hx:F.fails.reverse.find? (fun x=>x.1 == ((F.steps + 1:Nat):Int)) with _ | x
    · rw [hx] at hf; cases hf
    · have h1:=List.mem_of_find?_eq_some hx
      have h2:=List.find?_some hx
      have h3:=h.fl x (List.mem_reverse.1 h1)
      have h4:x.1=((F.steps + 1:Nat):Int):=by simpa using h2
      omega
def alN:List ByteArray:=[liveN,tmpS,tmpO,oldN 1,oldN 2,oldN 3,oldN 4,oldN 5,oldN 6,oldN 7,oldN 8]
theorem al_named:∀ n ∈ alN,namedM n=true:=by decide
theorem old_al {k:Nat} (h1:1 ≤ k) (h2:k ≤ 8):oldN k ∈ alN:=by
  unfold alN
  rcases (show k=1 ∨ k=2 ∨ k=3 ∨ k=4 ∨ k=5 ∨ k=6 ∨ k=7 ∨ k=8 by omega) with rfl | rfl | rfl | rfl | rfl | rfl | rfl | rfl <;> simp only [List.mem_cons,true_or,or_true]
theorem old_inj {a b:Nat} (ha:a ≤ 9) (hb:b ≤ 9) (h:oldN a=oldN b):a=b:=by
  have:∀ x y:Fin 10,oldN x.val=oldN y.val → x=y:=by decide
  have:=this ⟨a,by omega⟩ ⟨b,by omega⟩ h
  exact Fin.mk.inj_iff.1 this
theorem al_tmp:∀ n ∈ alN,isTmp n=true → n=tmpS ∨ n=tmpO:=by decide
structure Gd (N:Nat) (F:Fs):Prop where
  on:On N F
  ok:Okf F
  al:∀ m,¬ findM F.dir m < 0 → m ∈ alN
theorem sub_len:∀ (l m:List ByteArray),l.Nodup → (∀ x ∈ l,x ∈ m) → l.length ≤ m.length
  | [],m,_,_=>Nat.zero_le _
  | x :: l,m,hd,hs=>by
    obtain ⟨hx,hl⟩:=List.nodup_cons.1 hd
    obtain ⟨s,t,e⟩:=List.append_of_mem (hs x (List.mem_cons_self ..))
    subst e
    have h2:=sub_len l (s ++ t) hl (fun y hy=>by
      have h3:=hs y (List.mem_cons_of_mem _ hy)
      rcases List.mem_append.1 h3 with h | h
      · exact List.mem_append_left _ h
      · rcases List.mem_cons.1 h with h | h
        · exact absurd (h ▸ hy) hx
        · exact List.mem_append_right _ h)
    rw [List.length_append] at h2 ⊢
    rw [List.length_cons,List.length_cons]
    omega
theorem Gd.few {N:Nat} {F:Fs} (h:Gd N F):F.dir.length ≤ 11:=by
  have h1:=sub_len (F.dir.map (·.1)) alN (names_nodup h.ok.dk) (fun x hx=>by
    obtain ⟨y,hy,rfl⟩:=List.mem_map.1 hx
    refine h.al _ ?_
    rw [findM_in h.ok.dk.rise hy]
    have:=h.ok.dk.ge y hy
    omega)
  rw [List.length_map] at h1
  exact h1
def updV (v:ByteArray → Option ByteArray) (n:ByteArray) (o:Option ByteArray):ByteArray → Option ByteArray:=fun m=>if m=n then o else v m
theorem updv_at (v:ByteArray → Option ByteArray) (n:ByteArray) (o:Option ByteArray):updV v n o n=o:=if_pos rfl
theorem updv_ne (v:ByteArray → Option ByteArray) {n m:ByteArray} (o:Option ByteArray) (h:m ≠ n):updV v n o m=v m:=if_neg h
theorem updv_updv (v:ByteArray → Option ByteArray) (n:ByteArray) (o p:Option ByteArray):updV (updV v n o) n p=updV v n p:=by
  funext m
  unfold updV
  by_cases h:m=n
  · rw [if_pos h,if_pos h]
  · rw [if_neg h,if_neg h,if_neg h]
def Res (N:Nat) (F:Fs) (r:Fs × Int) (P:(ByteArray → Option ByteArray) → Prop):Prop:=Gd N r.1∧F.steps ≤ r.1.steps∧((r.2=0∧P (viewM r.1)) ∨ (r.2=200∧F.steps < N∧N ≤ r.1.steps))
theorem Res.weak {N:Nat} {F:Fs} {r:Fs × Int} {P Q:(ByteArray → Option ByteArray) → Prop} (h:Res N F r P) (hq:∀ v,P v → Q v):Res N F r Q:=⟨h.1,h.2.1,h.2.2.imp (fun x=>⟨x.1,hq _ x.2⟩) id⟩
theorem Res.and {N:Nat} {F:Fs} {r:Fs × Int} {f:Fs → Fs × Int} {P Q:(ByteArray → Option ByteArray) → Prop} (h:Res N F r P) (hf:∀ G,Gd N G → P (viewM G) → Res N G (f G) Q):Res N F (andM r f) Q:=by
  obtain ⟨h1,h2,h3 | h3⟩:=h
  · rw [andM_ok h3.1]
    obtain ⟨a,b,c⟩:=hf r.1 h1 h3.2
    exact ⟨a,by omega,c.imp id (fun x=>⟨x.1,by omega,x.2.2⟩)⟩
  · rw [andM_no (by rw [h3.1]; decide)]
    exact ⟨h1,h2,Or.inr h3⟩
theorem Res.spent {N:Nat} {F:Fs} {r:Fs × Int} {P:(ByteArray → Option ByteArray) → Prop} (h:Res N F r P) (hs:N ≤ F.steps):r.2=0∧P (viewM r.1):=by
  rcases h.2.2 with h3 | h3
  · exact h3
  · omega
theorem Res.done {N:Nat} {F:Fs} (h:Gd N F) {P:(ByteArray → Option ByteArray) → Prop} (hp:P (viewM F)):Res N F (F,0) P:=⟨h,Nat.le_refl _,Or.inl ⟨rfl,hp⟩⟩
theorem res_ok {N:Nat} {F F':Fs} (h:Gd N F) (ho:Okf F') (e1:F'.down=F.down) (e2:F'.crash=F.crash) (e3:F'.fails=F.fails) (e4:F'.steps=F.steps + 1) {V:ByteArray → Option ByteArray} (hv:viewM F'=V) (hV:∀ m,V m ≠ none → m ∈ alN):Res N F (F',0) (fun v=>v=V):=by
  refine ⟨⟨⟨by rw [e1]; exact h.on.up,by rw [e2]; exact h.on.cr,by rw [e3]; exact h.on.fl⟩,ho,fun m hm=>hV m ?_⟩,(by show F.steps ≤ F'.steps; omega),Or.inl ⟨rfl,hv⟩⟩
  rw [← hv]
  unfold viewM
  rw [if_neg hm]
  exact fun hh=>by cases hh
theorem res_no {N:Nat} {F F':Fs} (h:Gd N F) (ho:Okf F') (e1:F'.down=F.down) (e2:F'.crash=F.crash) (e3:F'.fails=F.fails) (e4:F'.steps=F.steps + 1) (e5:F'.dir=F.dir) (hN:N=F.steps + 1) {P:(ByteArray → Option ByteArray) → Prop}:Res N F (F',200) P:=by
  refine ⟨⟨⟨by rw [e1]; exact h.on.up,by rw [e2]; exact h.on.cr,by rw [e3]; exact h.on.fl⟩,ho,fun m hm=>h.al m (by rw [← e5]; exact hm)⟩,(by show F.steps ≤ F'.steps; omega),Or.inr ⟨rfl,(by omega),(by show N ≤ F'.steps; omega)⟩⟩
theorem Gd.vw {N:Nat} {F:Fs} (h:Gd N F) (m:ByteArray) (hm:viewM F m ≠ none):m ∈ alN:=h.al m (fun hf=>hm (if_pos hf))
theorem view_some {F:Fs} {n v:ByteArray} (h:viewM F n=some v):¬ findM F.dir n < 0∧(fileAt F (findM F.dir n).toNat).d=v:=by
  unfold viewM at h
  by_cases hf:findM F.dir n < 0
  · rw [if_pos hf] at h; cases h
  · rw [if_neg hf] at h
    exact ⟨hf,by injection h⟩
theorem res_create {N:Nat} {F:Fs} (h:Gd N F) {n:ByteArray} (ha:n ∈ alN):Res N F (createM F n) (fun v=>v=updV (viewM F) n (some ⟨#[]⟩)):=by
  have ho:=h.ok.create n
  obtain ⟨hs,h0 | ⟨h0,hN⟩⟩:=h.on.step
  · have e:createM F n=(changeM (addF (up1 F)) ⟨n,⟨#[]⟩,(F.files.length:Int)⟩,0):=by
      unfold createM
      rw [h.on.up,al_named n ha,if_neg (by decide),if_pos rfl,if_neg (fun hh=>by have:=h.few; omega)]
      simp only [h0,if_true,hs]
      rfl
    have hz:(createM F n).2=0:=by rw [e]
    have hv:viewM (createM F n).1=updV (viewM F) n (some ⟨#[]⟩):=by
      funext m
      by_cases hm:m=n
      · subst hm
        rw [updv_at,e]
        have hfi:findM (changeM (addF (up1 F)) ⟨m,⟨#[]⟩,(F.files.length:Int)⟩).dir m=(F.files.length:Int):=by
          have e3:afterM F.dir ⟨m,⟨#[]⟩,(F.files.length:Int)⟩=boundM F.dir m (F.files.length:Int):=if_pos rfl
          show findM (afterM F.dir ⟨m,⟨#[]⟩,(F.files.length:Int)⟩) m=_
          rw [e3,findM_put h.ok.dk.rise m m _ (by omega),if_pos rfl]
        unfold viewM
        simp only []
        rw [hfi,if_neg (by omega)]
        show some ((F.files ++ [(⟨⟨#[]⟩,0⟩:Fi)]).getD F.files.length ⟨⟨#[]⟩,0⟩).d=_
        rw [List.getD_eq_getElem?_getD]
        simp
      · rw [updv_ne _ _ hm]
        obtain ⟨h1,h2⟩:=find_create h.ok hm hz
        unfold viewM
        rw [h1]
        by_cases hf:findM F.dir m < 0
        · rw [if_pos hf,if_pos hf]
        · rw [if_neg hf,if_neg hf,h2 hf]
    rw [e] at hv ho ⊢
    refine res_ok h ho rfl rfl rfl rfl hv (fun m hm=>?_)
    by_cases hmn:m=n
    · rw [hmn]; exact ha
    · rw [updv_ne _ _ hmn] at hm
      exact h.vw m hm
  · have e:createM F n=(up1 F,200):=by
      unfold createM
      rw [h.on.up,al_named n ha,if_neg (by decide),if_pos rfl,if_neg (fun hh=>by have:=h.few; omega)]
      simp only [h0,hs]
      rfl
    rw [e] at ho ⊢
    exact res_no h ho rfl rfl rfl rfl rfl hN
theorem view_file {F:Fs} (h:Okf F) {n:ByteArray} (hn:¬ findM F.dir n < 0) (x:Fi):viewM { up1 F with files:=F.files.set (findM F.dir n).toNat x }=updV (viewM F) n (some x.d):=by
  funext m
  by_cases hm:m=n
  · subst hm
    rw [updv_at]
    unfold viewM
    show (if findM F.dir m < 0 then none else some ((F.files.set (findM F.dir m).toNat x).getD (findM F.dir m).toNat ⟨⟨#[]⟩,0⟩).d)=_
    rw [if_neg hn,set_getD,if_pos ⟨rfl,(find_in h.dk hn).1⟩]
  · rw [updv_ne _ _ hm]
    unfold viewM
    by_cases hf:findM F.dir m < 0
    · rw [if_pos hf]
      exact if_pos hf
    · rw [if_neg hf,← find_file h hm hn hf x]
      exact if_neg hf
theorem res_append {N:Nat} {F:Fs} (h:Gd N F) {n v d:ByteArray} (hv:viewM F n=some v) (hz:v.size + d.size ≤ 1073741824):Res N F (appendM F n d) (fun w=>w=updV (viewM F) n (some (v ++ d))):=by
  have ho:=h.ok.append n d
  obtain ⟨hf,hd⟩:=view_some hv
  have hh:hasM F n=0:=has_zero.2 ⟨h.on.up,al_named n (h.al n hf),hf⟩
  have hd2:(F.files.getD (findM F.dir n).toNat ⟨⟨#[]⟩,0⟩).d=v:=hd
  obtain ⟨hs,h0 | ⟨h0,hN⟩⟩:=h.on.step
  · have e:appendM F n d=({ up1 F with files:=F.files.set (findM F.dir n).toNat ⟨v ++ d,(fileAt F (findM F.dir n).toNat).s⟩ },0):=by
      unfold appendM
      rw [if_pos hh]
      simp only [hd2]
      rw [if_neg (by omega),if_neg (by rw [h0]; decide),if_neg (by rw [h0]; decide),hs,h0]
      rfl
    rw [e] at ho ⊢
    refine res_ok h ho rfl rfl rfl rfl (view_file h.ok hf _) (fun m hm=>?_)
    by_cases hmn:m=n
    · rw [hmn]; exact h.al n hf
    · rw [updv_ne _ _ hmn] at hm
      exact h.vw m hm
  · have e:∃ x,appendM F n d=({ up1 F with files:=F.files.set (findM F.dir n).toNat x },200):=by
      unfold appendM
      rw [if_pos hh]
      simp only [hd2]
      rw [if_neg (by omega),if_neg (by rw [h0]; decide),hs,h0]
      exact ⟨_,rfl⟩
    obtain ⟨x,e⟩:=e
    rw [e] at ho ⊢
    exact res_no h ho rfl rfl rfl rfl rfl hN
theorem updv_same {v:ByteArray → Option ByteArray} {n:ByteArray} {o:Option ByteArray} (h:v n=o):updV v n o=v:=by
  funext m
  unfold updV
  split
  · rename_i hm; rw [hm,h]
  · rfl
theorem res_sync {N:Nat} {F:Fs} (h:Gd N F) {n v:ByteArray} (hv:viewM F n=some v):Res N F (syncM F n) (fun w=>w=viewM F):=by
  have ho:=h.ok.sync n
  obtain ⟨hf,hd⟩:=view_some hv
  have hh:hasM F n=0:=has_zero.2 ⟨h.on.up,al_named n (h.al n hf),hf⟩
  obtain ⟨hs,h0 | ⟨h0,hN⟩⟩:=h.on.step
  · have e:syncM F n=({ up1 F with files:=F.files.set (findM F.dir n).toNat ⟨(fileAt F (findM F.dir n).toNat).d,(fileAt F (findM F.dir n).toNat).d.size⟩ },0):=by
      unfold syncM
      rw [if_pos hh]
      simp only [h0,if_true,hs]
      rfl
    rw [e] at ho ⊢
    refine res_ok h ho rfl rfl rfl rfl ?_ (fun m hm=>h.vw m hm)
    rw [view_file h.ok hf]
    exact updv_same (by rw [hv,hd])
  · have e:syncM F n=(up1 F,200):=by
      unfold syncM
      rw [if_pos hh]
      simp only [h0,hs]
      rfl
    rw [e] at ho ⊢
    exact res_no h ho rfl rfl rfl rfl rfl hN
theorem res_rename {N:Nat} {F:Fs} (h:Gd N F) {a b v:ByteArray} (hv:viewM F a=some v) (hb:b ∈ alN):Res N F (renameM F a b) (fun w=>w=updV (updV (viewM F) a none) b (some v)):=by
  have ho:=h.ok.rename a b
  obtain ⟨hf,hd⟩:=view_some hv
  have hbn:=al_named b hb
  have hh:hasM F a=0:=has_zero.2 ⟨h.on.up,al_named a (h.al a hf),hf⟩
  have hx:¬ (!F.down && !namedM b)=true:=by rw [hbn,h.on.up]; decide
  obtain ⟨hs,h0 | ⟨h0,hN⟩⟩:=h.on.step
  · have e:renameM F a b=(changeM (up1 F) ⟨a,b,findM F.dir a⟩,0):=by
      unfold renameM
      rw [if_neg hx,if_pos hh]
      simp only [h0,if_true,hs]
    rw [e] at ho ⊢
    have hr:=fun m=>find_ren h.ok.dk (n:=a) (t:=b) (by have:=(named_size hbn).1; omega) hf m
    have hview:viewM (changeM (up1 F) ⟨a,b,findM F.dir a⟩)=updV (updV (viewM F) a none) b (some v):=by
      funext m
      show (if findM (afterM F.dir ⟨a,b,findM F.dir a⟩) m < 0 then none else some (fileAt F (findM (afterM F.dir ⟨a,b,findM F.dir a⟩) m).toNat).d)=_
      rw [hr m]
      by_cases h1:m=b
      · rw [if_pos h1,h1,updv_at,if_neg hf,hd]
      · rw [if_neg h1,updv_ne _ _ h1]
        by_cases h2:m=a
        · rw [if_pos h2,h2,updv_at]; rfl
        · rw [if_neg h2,updv_ne _ _ h2]; rfl
    refine res_ok h ho rfl rfl rfl rfl hview (fun m hm=>?_)
    by_cases h1:m=b
    · rw [h1]; exact hb
    · rw [updv_ne _ _ h1] at hm
      by_cases h2:m=a
      · rw [h2,updv_at] at hm; exact absurd rfl hm
      · rw [updv_ne _ _ h2] at hm
        exact h.vw m hm
  · have e:renameM F a b=(up1 F,200):=by
      unfold renameM
      rw [if_neg hx,if_pos hh]
      simp only [h0,hs]
      rfl
    rw [e] at ho ⊢
    exact res_no h ho rfl rfl rfl rfl rfl hN
theorem res_remove {N:Nat} {F:Fs} (h:Gd N F) {a v:ByteArray} (hv:viewM F a=some v):Res N F (removeM F a) (fun w=>w=updV (viewM F) a none):=by
  have ho:=h.ok.remove a
  obtain ⟨hf,hd⟩:=view_some hv
  have hh:hasM F a=0:=has_zero.2 ⟨h.on.up,al_named a (h.al a hf),hf⟩
  obtain ⟨hs,h0 | ⟨h0,hN⟩⟩:=h.on.step
  · have e:removeM F a=(changeM (up1 F) ⟨a,⟨#[]⟩,-1⟩,0):=by
      unfold removeM
      rw [if_pos hh]
      simp only [h0,if_true,hs]
    rw [e] at ho ⊢
    have hview:viewM (changeM (up1 F) ⟨a,⟨#[]⟩,-1⟩)=updV (viewM F) a none:=by
      funext m
      have e2:afterM F.dir ⟨a,⟨#[]⟩,-1⟩=boundM F.dir a (-1):=if_pos rfl
      show (if findM (afterM F.dir ⟨a,⟨#[]⟩,-1⟩) m < 0 then none else some (fileAt F (findM (afterM F.dir ⟨a,⟨#[]⟩,-1⟩) m).toNat).d)=_
      rw [e2,findM_del _ _ _ _ (by decide)]
      by_cases h2:m=a
      · rw [if_pos h2,h2,updv_at]; rfl
      · rw [if_neg h2,updv_ne _ _ h2]; rfl
    refine res_ok h ho rfl rfl rfl rfl hview (fun m hm=>?_)
    by_cases h2:m=a
    · rw [h2,updv_at] at hm; exact absurd rfl hm
    · rw [updv_ne _ _ h2] at hm
      exact h.vw m hm
  · have e:removeM F a=(up1 F,200):=by
      unfold removeM
      rw [if_pos hh]
      simp only [h0,hs]
      rfl
    rw [e] at ho ⊢
    exact res_no h ho rfl rfl rfl rfl rfl hN
theorem res_syncDir {N:Nat} {F:Fs} (h:Gd N F):Res N F (syncDirM F) (fun w=>w=viewM F):=by
  have ho:=h.ok.syncDir
  obtain ⟨hs,h0 | ⟨h0,hN⟩⟩:=h.on.step
  · have e:syncDirM F=({ up1 F with sure:=F.dir,chg:=[] },0):=by
      unfold syncDirM
      rw [h.on.up]
      simp only [h0,if_true,hs,Bool.false_eq_true,if_false]
      rfl
    rw [e] at ho ⊢
    exact res_ok h ho rfl rfl rfl rfl rfl (fun m hm=>h.vw m hm)
  · have e:syncDirM F=(up1 F,200):=by
      unfold syncDirM
      rw [h.on.up]
      simp only [h0,hs,Bool.false_eq_true,if_false]
      rfl
    rw [e] at ho ⊢
    exact res_no h ho rfl rfl rfl rfl rfl hN
theorem res_apps {N:Nat} {n:ByteArray}:∀ (k:Nat) {F:Fs} (t pre:ByteArray),t.size ≤ k → Gd N F → viewM F n=some pre → pre.size + t.size ≤ 1073741824 → Res N F (appsM k F n t) (fun w=>w=updV (viewM F) n (some (pre ++ t)))
  | 0,F,t,pre,hk,h,hv,_=>by
    have:t=ByteArray.empty:=ByteArray.ext (Array.eq_empty_of_size_eq_zero (by have:t.data.size=t.size:=rfl; omega))
    rw [this,ByteArray.append_empty]
    exact Res.done h (updv_same hv).symm
  | k + 1,F,t,pre,hk,h,hv,hz=>by
    unfold appsM
    by_cases h0:t.size=0
    · rw [if_pos h0]
      have:t=ByteArray.empty:=ByteArray.ext (Array.eq_empty_of_size_eq_zero (by have:t.data.size=t.size:=rfl; omega))
      rw [this,ByteArray.append_empty]
      exact Res.done h (updv_same hv).symm
    · rw [if_neg h0]
      have hs1:(t.extract 0 (min 65536 t.size)).size=min 65536 t.size:=by rw [ext_len]; omega
      have hs2:=ext_rest t
      refine (res_append h (d:=t.extract 0 (min 65536 t.size)) hv (by omega)).and (fun G hG hvG=>?_)
      have h2:=res_apps (N:=N) (n:=n) k (F:=G) (t.extract (min 65536 t.size) t.size) (pre ++ t.extract 0 (min 65536 t.size)) (by omega) hG (by rw [hvG,updv_at]) (by rw [ByteArray.size_append]; omega)
      refine h2.weak (fun v e=>?_)
      rw [e,hvG,updv_updv,ByteArray.append_assoc,ext_join]
theorem res_written {N:Nat} {F:Fs} (h:Gd N F) {n t:ByteArray} (ha:n ∈ alN) (hz:t.size ≤ 1073741824):Res N F (writtenM F n t) (fun w=>w=updV (viewM F) n (some t)):=by
  unfold writtenM
  refine (res_create h ha).and (fun G hG hvG=>?_)
  refine Res.and (res_apps t.size t ⟨#[]⟩ (Nat.le_refl _) hG (by rw [hvG,updv_at]) (by show 0 + t.size ≤ _; omega)) (fun G2 hG2 hv2=>?_)
  have e1:(⟨#[]⟩:ByteArray) ++ t=t:=ByteArray.empty_append
  rw [e1,hvG,updv_updv] at hv2
  refine (res_sync hG2 (n:=n) (v:=t) (by rw [hv2,updv_at])).weak (fun v e=>?_)
  rw [e,hv2]
theorem there_view {N:Nat} {F:Fs} (h:Gd N F) {n:ByteArray} (ha:n ∈ alN):thereM F n=(orNo (viewM F n)).2:=(read_view h.on.up (al_named n ha)).2
theorem res_rens {N:Nat}:∀ (i:Nat) {F:Fs},i + 1 ≤ 8 → Gd N F → (∀ k,1 ≤ k → k ≤ i → viewM F (oldN k)=none → viewM F (oldN (k + 1))=none) → Res N F (rensM i F) (fun v=>(∀ k,1 ≤ k → k ≤ i → v (oldN (k + 1))=viewM F (oldN k))∧∀ m,(∀ k,1 ≤ k → k ≤ i + 1 → m ≠ oldN k) → v m=viewM F m)
  | 0,F,_,h,_=>Res.done h ⟨fun k h1 h2=>by omega,fun m _=>rfl⟩
  | i + 1,F,hi,h,hc=>by
    unfold rensM
    have hA:=old_al (k:=i + 1) (by omega) (by omega)
    have hB:=old_al (k:=i + 2) (by omega) (by omega)
    have hth:=there_view h hA
    have hne:∀ {a b:Nat},a ≤ 9 → b ≤ 9 → a ≠ b → oldN a ≠ oldN b:=fun ha hb hab e=>hab (old_inj ha hb e)
    rcases hv:viewM F (oldN (i + 1)) with _ | v
    · rw [hv] at hth
      rw [hth]
      show Res N F (if false=true then _ else _) _
      rw [if_neg (by decide)]
      refine (res_rens i (by omega) h (fun k h1 h2=>hc k h1 (by omega))).weak (fun w hw=>⟨fun k h1 h2=>?_,fun m hm=>hw.2 m (fun k h1 h2=>hm k h1 (by omega))⟩)
      by_cases hk:k=i + 1
      · subst hk
        rw [hw.2 _ (fun j h3 h4=>hne (by omega) (by omega) (by omega)),hv]
        exact hc (i + 1) (by omega) (by omega) hv
      · exact hw.1 k h1 (by omega)
    · rw [hv] at hth
      rw [hth]
      show Res N F (if true=true then _ else _) _
      rw [if_pos rfl]
      refine (res_rename h hv hB).and (fun G hG hvG=>?_)
      have hl:∀ k,k ≤ i → viewM G (oldN k)=viewM F (oldN k):=fun k hk=>by
        rw [hvG,updv_ne _ _ (hne (by omega) (by omega) (by omega)),updv_ne _ _ (hne (by omega) (by omega) (by omega))]
      have hm1:viewM G (oldN (i + 1))=none:=by
        rw [hvG,updv_ne _ _ (hne (by omega) (by omega) (by omega)),updv_at]
      refine (res_rens i (by omega) hG (fun k h1 h2 h3=>?_)).weak (fun w hw=>⟨fun k h1 h2=>?_,fun m hm=>?_⟩)
      · by_cases hk:k=i
        · rw [hk]; exact hm1
        · rw [hl k h2] at h3
          rw [hl (k + 1) (by omega)]
          exact hc k h1 (by omega) h3
      · by_cases hk:k=i + 1
        · subst hk
          rw [hw.2 _ (fun j h3 h4=>hne (by omega) (by omega) (by omega)),hvG,updv_at,hv]
        · rw [hw.1 k h1 (by omega),hl k (by omega)]
      · rw [hw.2 m (fun k h1 h2=>hm k h1 (by omega)),hvG,updv_ne _ _ (hm (i + 2) (by omega) (by omega)),updv_ne _ _ (hm (i + 1) (by omega) (by omega))]
end Go.Proofs.YtbgbmfmgdgalbaaGreatDoor
