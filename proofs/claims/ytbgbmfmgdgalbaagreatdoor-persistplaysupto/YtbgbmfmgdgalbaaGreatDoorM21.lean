import Derived.Test.YtbgbmfmgdgalbaaGreatDoorM20
namespace Go.Proofs.YtbgbmfmgdgalbaaGreatDoor
open Go.RowKit Go.Maps
set_option linter.unusedVariables false
set_option linter.unusedSimpArgs false
structure On (N:Nat) (F:Fs):Prop where
  up:F.down=false
  cr:F.crash=0
  fl:∀ f ∈ F.fails,f.1=(N:Int)
theorem On.step {N:Nat} {F:Fs} (h:On N F):(stepM F).1=up1 F∧((stepM F).2.1=0 ∨ ((stepM F).2.1=200∧N=F.steps + 1)):=by
  unfold stepM
  simp only []
  rw [if_neg (by rw [h.cr]; omega)]
  rcases hf:failM F.fails (F.steps + 1) with _ | p
  · exact ⟨rfl,Or.inl rfl⟩
  · refine ⟨rfl,Or.inr ⟨rfl,?_⟩⟩
    unfold failM at hf
    rcases hx:F.fails.reverse.find? (fun x=>x.1 == ((F.steps + 1:Nat):Int)) with _ | x
    · rw [hx] at hf; cases hf
    · have h1:=List.mem_of_find?_eq_some hx
      have h2:=List.find?_some hx
      have h3:=h.fl x (List.mem_reverse.1 h1)
      have h4:x.1=((F.steps + 1:Nat):Int):=by simpa using h2
      omega
def alN:List ByteArray:=[liveN,tmpS,tmpO,oldN 1,oldN 2,oldN 3,oldN 4,oldN 5,oldN 6,oldN 7,oldN 8]
theorem al_named:∀ n ∈ alN,namedM n=true:=by decide
theorem old_al {k:Nat} (h1:1 ≤ k) (h2:k ≤ 8):oldN k ∈ alN:=by
  unfold alN
  rcases (show k=1 ∨ k=2 ∨ k=3 ∨ k=4 ∨ k=5 ∨ k=6 ∨ k=7 ∨ k=8 by omega) with rfl | rfl | rfl | rfl | rfl | rfl | rfl | rfl <;> simp only [List.mem_cons,true_or,or_true]
theorem old_inj {a b:Nat} (ha:a ≤ 9) (hb:b ≤ 9) (h:oldN a=oldN b):a=b:=by
  have:∀ x y:Fin 10,oldN x.val=oldN y.val → x=y:=by decide
  have:=this ⟨a,by omega⟩ ⟨b,by omega⟩ h
  exact Fin.mk.inj_iff.1 this
theorem al_tmp:∀ n ∈ alN,isTmp n=true → n=tmpS ∨ n=tmpO:=by decide
structure Gd (N:Nat) (F:Fs):Prop where
  on:On N F
  ok:Okf F
  al:∀ m,¬ findM F.dir m < 0 → m ∈ alN
theorem sub_len:∀ (l m:List ByteArray),l.Nodup → (∀ x ∈ l,x ∈ m) → l.length ≤ m.length
  | [],m,_,_=>Nat.zero_le _
  | x :: l,m,hd,hs=>by
    obtain ⟨hx,hl⟩:=List.nodup_cons.1 hd
    obtain ⟨s,t,e⟩:=List.append_of_mem (hs x (List.mem_cons_self ..))
    subst e
    have h2:=sub_len l (s ++ t) hl (fun y hy=>by
      have h3:=hs y (List.mem_cons_of_mem _ hy)
      rcases List.mem_append.1 h3 with h | h
      · exact List.mem_append_left _ h
      · rcases List.mem_cons.1 h with h | h
        · exact absurd (h ▸ hy) hx
        · exact List.mem_append_right _ h)
    rw [List.length_append] at h2 ⊢
    rw [List.length_cons,List.length_cons]
    omega
theorem Gd.few {N:Nat} {F:Fs} (h:Gd N F):F.dir.length ≤ 11:=by
  have h1:=sub_len (F.dir.map (·.1)) alN (names_nodup h.ok.dk) (fun x hx=>by
    obtain ⟨y,hy,rfl⟩:=List.mem_map.1 hx
    refine h.al _ ?_
    rw [findM_in h.ok.dk.rise hy]
    have:=h.ok.dk.ge y hy
    omega)
  rw [List.length_map] at h1
  exact h1
def updV (v:ByteArray → Option ByteArray) (n:ByteArray) (o:Option ByteArray):ByteArray → Option ByteArray:=fun m=>if m=n then o else v m
theorem updv_at (v:ByteArray → Option ByteArray) (n:ByteArray) (o:Option ByteArray):updV v n o n=o:=if_pos rfl
theorem updv_ne (v:ByteArray → Option ByteArray) {n m:ByteArray} (o:Option ByteArray) (h:m ≠ n):updV v n o m=v m:=if_neg h
theorem updv_updv (v:ByteArray → Option ByteArray) (n:ByteArray) (o p:Option ByteArray):updV (updV v n o) n p=updV v n p:=by
  funext m
  unfold updV
  by_cases h:m=n
  · rw [if_pos h,if_pos h]
  · rw [if_neg h,if_neg h,if_neg h]
def Res (N:Nat) (F:Fs) (r:Fs × Int) (P:(ByteArray → Option ByteArray) → Prop):Prop:=Gd N r.1∧F.steps ≤ r.1.steps∧((r.2=0∧P (viewM r.1)) ∨ (r.2=200∧F.steps < N∧N ≤ r.1.steps))
theorem Res.weak {N:Nat} {F:Fs} {r:Fs × Int} {P Q:(ByteArray → Option ByteArray) → Prop} (h:Res N F r P) (hq:∀ v,P v → Q v):Res N F r Q:=⟨h.1,h.2.1,h.2.2.imp (fun x=>⟨x.1,hq _ x.2⟩) id⟩
theorem Res.and {N:Nat} {F:Fs} {r:Fs × Int} {f:Fs → Fs × Int} {P Q:(ByteArray → Option ByteArray) → Prop} (h:Res N F r P) (hf:∀ G,Gd N G → P (viewM G) → Res N G (f G) Q):Res N F (andM r f) Q:=by
  obtain ⟨h1,h2,h3 | h3⟩:=h
  · rw [andM_ok h3.1]
    obtain ⟨a,b,c⟩:=hf r.1 h1 h3.2
    exact ⟨a,by omega,c.imp id (fun x=>⟨x.1,by omega,x.2.2⟩)⟩
  · rw [andM_no (by rw [h3.1]; decide)]
    exact ⟨h1,h2,Or.inr h3⟩
theorem Res.spent {N:Nat} {F:Fs} {r:Fs × Int} {P:(ByteArray → Option ByteArray) → Prop} (h:Res N F r P) (hs:N ≤ F.steps):r.2=0∧P (viewM r.1):=by
  rcases h.2.2 with h3 | h3
  · exact h3
  · omega
theorem Res.done {N:Nat} {F:Fs} (h:Gd N F) {P:(ByteArray → Option ByteArray) → Prop} (hp:P (viewM F)):Res N F (F,0) P:=⟨h,Nat.le_refl _,Or.inl ⟨rfl,hp⟩⟩
theorem res_ok {N:Nat} {F F':Fs} (h:Gd N F) (ho:Okf F') (e1:F'.down=F.down) (e2:F'.crash=F.crash) (e3:F'.fails=F.fails) (e4:F'.steps=F.steps + 1) {V:ByteArray → Option ByteArray} (hv:viewM F'=V) (hV:∀ m,V m ≠ none → m ∈ alN):Res N F (F',0) (fun v=>v=V):=by
  refine ⟨⟨⟨by rw [e1]; exact h.on.up,by rw [e2]; exact h.on.cr,by rw [e3]; exact h.on.fl⟩,ho,fun m hm=>hV m ?_⟩,(by show F.steps ≤ F'.steps; omega),Or.inl ⟨rfl,hv⟩⟩
  rw [← hv]
  unfold viewM
  rw [if_neg hm]
  exact fun hh=>by cases hh
theorem res_no {N:Nat} {F F':Fs} (h:Gd N F) (ho:Okf F') (e1:F'.down=F.down) (e2:F'.crash=F.crash) (e3:F'.fails=F.fails) (e4:F'.steps=F.steps + 1) (e5:F'.dir=F.dir) (hN:N=F.steps + 1) {P:(ByteArray → Option ByteArray) → Prop}:Res N F (F',200) P:=by
  refine ⟨⟨⟨by rw [e1]; exact h.on.up,by rw [e2]; exact h.on.cr,by rw [e3]; exact h.on.fl⟩,ho,fun m hm=>h.al m (by rw [← e5]; exact hm)⟩,(by show F.steps ≤ F'.steps; omega),Or.inr ⟨rfl,(by omega),(by show N ≤ F'.steps; omega)⟩⟩
theorem Gd.vw {N:Nat} {F:Fs} (h:Gd N F) (m:ByteArray) (hm:viewM F m ≠ none):m ∈ alN:=h.al m (fun hf=>hm (if_pos hf))
theorem view_some {F:Fs} {n v:ByteArray} (h:viewM F n=some v):¬ findM F.dir n < 0∧(fileAt F (findM F.dir n).toNat).d=v:=by
  unfold viewM at h
  by_cases hf:findM F.dir n < 0
  · rw [if_pos hf] at h; cases h
  · rw [if_neg hf] at h
    exact ⟨hf,by injection h⟩
theorem res_create {N:Nat} {F:Fs} (h:Gd N F) {n:ByteArray} (ha:n ∈ alN):Res N F (createM F n) (fun v=>v=updV (viewM F) n (some ⟨#[]⟩)):=by
  have ho:=h.ok.create n
  obtain ⟨hs,h0 | ⟨h0,hN⟩⟩:=h.on.step
  · have e:createM F n=(changeM (addF (up1 F)) ⟨n,⟨#[]⟩,(F.files.length:Int)⟩,0):=by
      unfold createM
      rw [h.on.up,al_named n ha,if_neg (by decide),if_pos rfl,if_neg (fun hh=>by have:=h.few; omega)]
      simp only [h0,if_true,hs]
      rfl
    have hz:(createM F n).2=0:=by rw [e]
    have hv:viewM (createM F n).1=updV (viewM F) n (some ⟨#[]⟩):=by
      funext m
      by_cases hm:m=n
      · subst hm
        rw [updv_at,e]
        have hfi:findM (changeM (addF (up1 F)) ⟨m,⟨#[]⟩,(F.files.length:Int)⟩).dir m=(F.files.length:Int):=by
          have e3:afterM F.dir ⟨m,⟨#[]⟩,(F.files.length:Int)⟩=boundM F.dir m (F.files.length:Int):=if_pos rfl
          show findM (afterM F.dir ⟨m,⟨#[]⟩,(F.files.length:Int)⟩) m=_
          rw [e3,findM_put h.ok.dk.rise m m _ (by omega),if_pos rfl]
        unfold viewM
        simp only []
        rw [hfi,if_neg (by omega)]
        show some ((F.files ++ [(⟨⟨#[]⟩,0⟩:Fi)]).getD F.files.length ⟨⟨#[]⟩,0⟩).d=_
        rw [List.getD_eq_getElem?_getD]
        simp
      · rw [updv_ne _ _ hm]
        obtain ⟨h1,h2⟩:=find_create h.ok hm hz
        unfold viewM
        rw [h1]
        by_cases hf:findM F.dir m < 0
        · rw [if_pos hf,if_pos hf]
        · rw [if_neg hf,if_neg hf,h2 hf]
    rw [e] at hv ho ⊢
    refine res_ok h ho rfl rfl rfl rfl hv (fun m hm=>?_)
    by_cases hmn:m=n
    · rw [hmn]; exact ha
    · rw [updv_ne _ _ hmn] at hm
      exact h.vw m hm
  · have e:createM F n=(up1 F,200):=by
      unfold createM
      rw [h.on.up,al_named n ha,if_neg (by decide),if_pos rfl,if_neg (fun hh=>by have:=h.few; omega)]
      simp only [h0,hs]
      rfl
    rw [e] at ho ⊢
    exact res_no h ho rfl rfl rfl rfl rfl hN
theorem view_file {F:Fs} (h:Okf F) {n:ByteArray} (hn:¬ findM F.dir n < 0) (x:Fi):viewM { up1 F with files:=F.files.set (findM F.dir n).toNat x }=updV (viewM F) n (some x.d):=by
  funext m
  by_cases hm:m=n
  · subst hm
    rw [updv_at]
    unfold viewM
    show (if findM F.dir m < 0 then none else some ((F.files.set (findM F.dir m).toNat x).getD (findM F.dir m).toNat ⟨⟨#[]⟩,0⟩).d)=_
    rw [if_neg hn,set_getD,if_pos ⟨rfl,(find_in h.dk hn).1⟩]
  · rw [updv_ne _ _ hm]
    unfold viewM
    by_cases hf:findM F.dir m < 0
    · rw [if_pos hf]
      exact if_pos hf
    · rw [if_neg hf,← find_file h hm hn hf x]
      exact if_neg hf
theorem res_append {N:Nat} {F:Fs} (h:Gd N F) {n v d:ByteArray} (hv:viewM F n=some v) (hz:v.size + d.size ≤ 1073741824):Res N F (appendM F n d) (fun w=>w=updV (viewM F) n (some (v ++ d))):=by
  have ho:=h.ok.append n d
  obtain ⟨hf,hd⟩:=view_some hv
  have hh:hasM F n=0:=has_zero.2 ⟨h.on.up,al_named n (h.al n hf),hf⟩
  have hd2:(F.files.getD (findM F.dir n).toNat ⟨⟨#[]⟩,0⟩).d=v:=hd
  obtain ⟨hs,h0 | ⟨h0,hN⟩⟩:=h.on.step
  · have e:appendM F n d=({ up1 F with files:=F.files.set (findM F.dir n).toNat ⟨v ++ d,(fileAt F (findM F.dir n).toNat).s⟩ },0):=by
      unfold appendM
      rw [if_pos hh]
      simp only [hd2]
      rw [if_neg (by omega),if_neg (by rw [h0]; decide),if_neg (by rw [h0]; decide),hs,h0]
      rfl
    rw [e] at ho ⊢
    refine res_ok h ho rfl rfl rfl rfl (view_file h.ok hf _) (fun m hm=>?_)
    by_cases hmn:m=n
    · rw [hmn]; exact h.al n hf
    · rw [updv_ne _ _ hmn] at hm
      exact h.vw m hm
  · have e:∃ x,appendM F n d=({ up1 F with files:=F.files.set (findM F.dir n).toNat x },200):=by
      unfold appendM
      rw [if_pos hh]
      simp only [hd2]
      rw [if_neg (by omega),if_neg (by rw [h0]; decide),hs,h0]
      exact ⟨_,rfl⟩
    obtain ⟨x,e⟩:=e
    rw [e] at ho ⊢
    exact res_no h ho rfl rfl rfl rfl rfl hN
theorem updv_same {v:ByteArray → Option ByteArray} {n:ByteArray} {o:Option ByteArray} (h:v n=o):updV v n o=v:=by
  funext m
  unfold updV
  split
  · rename_i hm; rw [hm,h]
  · rfl
theorem res_sync {N:Nat} {F:Fs} (h:Gd N F) {n v:ByteArray} (hv:viewM F n=some v):Res N F (syncM F n) (fun w=>w=viewM F):=by
  have ho:=h.ok.sync n
  obtain ⟨hf,hd⟩:=view_some hv
  have hh:hasM F n=0:=has_zero.2 ⟨h.on.up,al_named n (h.al n hf),hf⟩
  obtain ⟨hs,h0 | ⟨h0,hN⟩⟩:=h.on.step
  · have e:syncM F n=({ up1 F with files:=F.files.set (findM F.dir n).toNat ⟨(fileAt F (findM F.dir n).toNat).d,(fileAt F (findM F.dir n).toNat).d.size⟩ },0):=by
      unfold syncM
      rw [if_pos hh]
      simp only [h0,if_true,hs]
      rfl
    rw [e] at ho ⊢
    refine res_ok h ho rfl rfl rfl rfl ?_ (fun m hm=>h.vw m hm)
    rw [view_file h.ok hf]
    exact updv_same (by rw [hv,hd])
  · have e:syncM F n=(up1 F,200):=by
      unfold syncM
      rw [if_pos hh]
      simp only [h0,hs]
      rfl
    rw [e] at ho ⊢
    exact res_no h ho rfl rfl rfl rfl rfl hN
theorem res_rename {N:Nat} {F:Fs} (h:Gd N F) {a b v:ByteArray} (hv:viewM F a=some v) (hb:b ∈ alN):Res N F (renameM F a b) (fun w=>w=updV (updV (viewM F) a none) b (some v)):=by
  have ho:=h.ok.rename a b
  obtain ⟨hf,hd⟩:=view_some hv
  have hbn:=al_named b hb
  have hh:hasM F a=0:=has_zero.2 ⟨h.on.up,al_named a (h.al a hf),hf⟩
  have hx:¬ (!F.down && !namedM b)=true:=by rw [hbn,h.on.up]; decide
  obtain ⟨hs,h0 | ⟨h0,hN⟩⟩:=h.on.step
  · have e:renameM F a b=(changeM (up1 F) ⟨a,b,findM F.dir a⟩,0):=by
      unfold renameM
      rw [if_neg hx,if_pos hh]
      simp only [h0,if_true,hs]
    rw [e] at ho ⊢
    have hr:=fun m=>find_ren h.ok.dk (n:=a) (t:=b) (by have:=(named_size hbn).1; omega) hf m
    have hview:viewM (changeM (up1 F) ⟨a,b,findM F.dir a⟩)=updV (updV (viewM F) a none) b (some v):=by
      funext m
      show (if findM (afterM F.dir ⟨a,b,findM F.dir a⟩) m < 0 then none else some (fileAt F (findM (afterM F.dir ⟨a,b,findM F.dir a⟩) m).toNat).d)=_
      rw [hr m]
      by_cases h1:m=b
      · rw [if_pos h1,h1,updv_at,if_neg hf,hd]
      · rw [if_neg h1,updv_ne _ _ h1]
        by_cases h2:m=a
        · rw [if_pos h2,h2,updv_at]; rfl
        · rw [if_neg h2,updv_ne _ _ h2]; rfl
    refine res_ok h ho rfl rfl rfl rfl hview (fun m hm=>?_)
    by_cases h1:m=b
    · rw [h1]; exact hb
    · rw [updv_ne _ _ h1] at hm
      by_cases h2:m=a
      · rw [h2,updv_at] at hm; exact absurd rfl hm
      · rw [updv_ne _ _ h2] at hm
        exact h.vw m hm
  · have e:renameM F a b=(up1 F,200):=by
      unfold renameM
      rw [if_neg hx,if_pos hh]
      simp only [h0,hs]
      rfl
    rw [e] at ho ⊢
    exact res_no h ho rfl rfl rfl rfl rfl hN
theorem res_remove {N:Nat} {F:Fs} (h:Gd N F) {a v:ByteArray} (hv:viewM F a=some v):Res N F (removeM F a) (fun w=>w=updV (viewM F) a none):=by
  have ho:=h.ok.remove a
  obtain ⟨hf,hd⟩:=view_some hv
  have hh:hasM F a=0:=has_zero.2 ⟨h.on.up,al_named a (h.al a hf),hf⟩
  obtain ⟨hs,h0 | ⟨h0,hN⟩⟩:=h.on.step
  · have e:removeM F a=(changeM (up1 F) ⟨a,⟨#[]⟩,-1⟩,0):=by
      unfold removeM
      rw [if_pos hh]
      simp only [h0,if_true,hs]
    rw [e] at ho ⊢
    have hview:viewM (changeM (up1 F) ⟨a,⟨#[]⟩,-1⟩)=updV (viewM F) a none:=by
      funext m
      have e2:afterM F.dir ⟨a,⟨#[]⟩,-1⟩=boundM F.dir a (-1):=if_pos rfl
      show (if findM (afterM F.dir ⟨a,⟨#[]⟩,-1⟩) m < 0 then none else some (fileAt F (findM (afterM F.dir ⟨a,⟨#[]⟩,-1⟩) m).toNat).d)=_
      rw [e2,findM_del _ _ _ _ (by decide)]
      by_cases h2:m=a
      · rw [if_pos h2,h2,updv_at]; rfl
      · rw [if_neg h2,updv_ne _ _ h2]; rfl
    refine res_ok h ho rfl rfl rfl rfl hview (fun m hm=>?_)
    by_cases h2:m=a
    · rw [h2,updv_at] at hm; exact absurd rfl hm
    · rw [updv_ne _ _ h2] at hm
      exact h.vw m hm
  · have e:removeM F a=(up1 F,200):=by
      unfold removeM
      rw [if_pos hh]
      simp only [h0,hs]
      rfl
    rw [e] at ho ⊢
    exact res_no h ho rfl rfl rfl rfl rfl hN
theorem res_syncDir {N:Nat} {F:Fs} (h:Gd N F):Res N F (syncDirM F) (fun w=>w=viewM F):=by
  have ho:=h.ok.syncDir
  obtain ⟨hs,h0 | ⟨h0,hN⟩⟩:=h.on.step
  · have e:syncDirM F=({ up1 F with sure:=F.dir,chg:=[] },0):=by
      unfold syncDirM
      rw [h.on.up]
      simp only [h0,if_true,hs,Bool.false_eq_true,if_false]
      rfl
    rw [e] at ho ⊢
    exact res_ok h ho rfl rfl rfl rfl rfl (fun m hm=>h.vw m hm)
  · have e:syncDirM F=(up1 F,200):=by
      unfold syncDirM
      rw [h.on.up]
      simp only [h0,hs,Bool.false_eq_true,if_false]
      rfl
    rw [e] at ho ⊢
    exact res_no h ho rfl rfl rfl rfl rfl hN
theorem res_apps {N:Nat} {n:ByteArray}:∀ (k:Nat) {F:Fs} (t pre:ByteArray),t.size ≤ k → Gd N F → viewM F n=some pre → pre.size + t.size ≤ 1073741824 → Res N F (appsM k F n t) (fun w=>w=updV (viewM F) n (some (pre ++ t)))
  | 0,F,t,pre,hk,h,hv,_=>by
    have:t=ByteArray.empty:=ByteArray.ext (Array.eq_empty_of_size_eq_zero (by have:t.data.size=t.size:=rfl; omega))
    rw [this,ByteArray.append_empty]
    exact Res.done h (updv_same hv).symm
  | k + 1,F,t,pre,hk,h,hv,hz=>by
    unfold appsM
    by_cases h0:t.size=0
    · rw [if_pos h0]
      have:t=ByteArray.empty:=ByteArray.ext (Array.eq_empty_of_size_eq_zero (by have:t.data.size=t.size:=rfl; omega))
      rw [this,ByteArray.append_empty]
      exact Res.done h (updv_same hv).symm
    · rw [if_neg h0]
      have hs1:(t.extract 0 (min 65536 t.size)).size=min 65536 t.size:=by rw [ext_len]; omega
      have hs2:=ext_rest t
      refine (res_append h (d:=t.extract 0 (min 65536 t.size)) hv (by omega)).and (fun G hG hvG=>?_)
      have h2:=res_apps (N:=N) (n:=n) k (F:=G) (t.extract (min 65536 t.size) t.size) (pre ++ t.extract 0 (min 65536 t.size)) (by omega) hG (by rw [hvG,updv_at]) (by rw [ByteArray.size_append]; omega)
      refine h2.weak (fun v e=>?_)
      rw [e,hvG,updv_updv,ByteArray.append_assoc,ext_join]
theorem res_written {N:Nat} {F:Fs} (h:Gd N F) {n t:ByteArray} (ha:n ∈ alN) (hz:t.size ≤ 1073741824):Res N F (writtenM F n t) (fun w=>w=updV (viewM F) n (some t)):=by
  unfold writtenM
  refine (res_create h ha).and (fun G hG hvG=>?_)
  refine Res.and (res_apps t.size t ⟨#[]⟩ (Nat.le_refl _) hG (by rw [hvG,updv_at]) (by show 0 + t.size ≤ _; omega)) (fun G2 hG2 hv2=>?_)
  have e1:(⟨#[]⟩:ByteArray) ++ t=t:=ByteArray.empty_append
  rw [e1,hvG,updv_updv] at hv2
  refine (res_sync hG2 (n:=n) (v:=t) (by rw [hv2,updv_at])).weak (fun v e=>?_)
  rw [e,hv2]
theorem there_view {N:Nat} {F:Fs} (h:Gd N F) {n:ByteArray} (ha:n ∈ alN):thereM F n=(orNo (viewM F n)).2:=(read_view h.on.up (al_named n ha)).2
theorem res_rens {N:Nat}:∀ (i:Nat) {F:Fs},i + 1 ≤ 8 → Gd N F → (∀ k,1 ≤ k → k ≤ i → viewM F (oldN k)=none → viewM F (oldN (k + 1))=none) → Res N F (rensM i F) (fun v=>(∀ k,1 ≤ k → k ≤ i → v (oldN (k + 1))=viewM F (oldN k))∧∀ m,(∀ k,1 ≤ k → k ≤ i + 1 → m ≠ oldN k) → v m=viewM F m)
  | 0,F,_,h,_=>Res.done h ⟨fun k h1 h2=>by omega,fun m _=>rfl⟩
  | i + 1,F,hi,h,hc=>by
    unfold rensM
    have hA:=old_al (k:=i + 1) (by omega) (by omega)
    have hB:=old_al (k:=i + 2) (by omega) (by omega)
    have hth:=there_view h hA
    have hne:∀ {a b:Nat},a ≤ 9 → b ≤ 9 → a ≠ b → oldN a ≠ oldN b:=fun ha hb hab e=>hab (old_inj ha hb e)
    rcases hv:viewM F (oldN (i + 1)) with _ | v
    · rw [hv] at hth
      rw [hth]
      show Res N F (if false=true then _ else _) _
      rw [if_neg (by decide)]
      refine (res_rens i (by omega) h (fun k h1 h2=>hc k h1 (by omega))).weak (fun w hw=>⟨fun k h1 h2=>?_,fun m hm=>hw.2 m (fun k h1 h2=>hm k h1 (by omega))⟩)
      by_cases hk:k=i + 1
      · subst hk
        rw [hw.2 _ (fun j h3 h4=>hne (by omega) (by omega) (by omega)),hv]
        exact hc (i + 1) (by omega) (by omega) hv
      · exact hw.1 k h1 (by omega)
    · rw [hv] at hth
      rw [hth]
      show Res N F (if true=true then _ else _) _
      rw [if_pos rfl]
      refine (res_rename h hv hB).and (fun G hG hvG=>?_)
      have hl:∀ k,k ≤ i → viewM G (oldN k)=viewM F (oldN k):=fun k hk=>by
        rw [hvG,updv_ne _ _ (hne (by omega) (by omega) (by omega)),updv_ne _ _ (hne (by omega) (by omega) (by omega))]
      have hm1:viewM G (oldN (i + 1))=none:=by
        rw [hvG,updv_ne _ _ (hne (by omega) (by omega) (by omega)),updv_at]
      refine (res_rens i (by omega) hG (fun k h1 h2 h3=>?_)).weak (fun w hw=>⟨fun k h1 h2=>?_,fun m hm=>?_⟩)
      · by_cases hk:k=i
        · rw [hk]; exact hm1
        · rw [hl k h2] at h3
          rw [hl (k + 1) (by omega)]
          exact hc k h1 (by omega) h3
      · by_cases hk:k=i + 1
        · subst hk
          rw [hw.2 _ (fun j h3 h4=>hne (by omega) (by omega) (by omega)),hvG,updv_at,hv]
        · rw [hw.1 k h1 (by omega),hl k (by omega)]
      · rw [hw.2 m (fun k h1 h2=>hm k h1 (by omega)),hvG,updv_ne _ _ (hm (i + 2) (by omega) (by omega)),updv_ne _ _ (hm (i + 1) (by omega) (by omega))]
end Go.Proofs.YtbgbmfmgdgalbaaGreatDoor
namespace Go.Proofs.YtbgbmfmgdgalbaaGreatDoor
open Go.RowKit Go.Maps
set_option linter.unusedVariables false
set_option linter.unusedSimpArgs false
theorem al_live:liveN ∈ alN:=by unfold alN; simp only [List.mem_cons,true_or,or_true]
theorem al_S:tmpS ∈ alN:=by unfold alN; simp only [List.mem_cons,true_or,or_true]
theorem al_O:tmpO ∈ alN:=by unfold alN; simp only [List.mem_cons,true_or,or_true]
theorem ne_oldO (i:Nat):tmpO ≠ oldN i:=fun e=>by
  have h:=congrArg (fun b:ByteArray=>b.data[0]?) e
  have h2:(oldN i).data[0]?=some 100:=rfl
  have h3:tmpO.data[0]?=some 116:=rfl
  simp only [h2,h3] at h
  exact absurd h (by decide)
theorem ne_oldT (i:Nat):oldN i ≠ tmpS:=fun e=>ne_oldS i e.symm
theorem ne_oldP (i:Nat):oldN i ≠ tmpO:=fun e=>ne_oldO i e.symm
theorem old_ne {a b:Nat} (ha:a ≤ 9) (hb:b ≤ 9) (hab:a ≠ b):oldN a ≠ oldN b:=fun e=>hab (old_inj ha hb e)
theorem rems_none:∀ (m:Nat) {N:Nat} {F:Fs},m ≤ 8 → Gd N F → (∀ k,8 - m < k → k ≤ 8 → viewM F (oldN k)=none) → remsM m F=(F,0)
  | 0,_,_,_,_,_=>rfl
  | m + 1,N,F,hm,h,hv=>by
    unfold remsM
    rw [there_view h (old_al (k:=8 - m) (by omega) (by omega)),hv (8 - m) (by omega) (by omega)]
    show (if false=true then _ else _)=_
    rw [if_neg (by decide)]
    exact rems_none m (by omega) h (fun k h1 h2=>hv k (by omega) h2)
theorem res_kept {N:Nat} {F:Fs} (h:Gd N F) {c:ByteArray} (hc:viewM F liveN=some c) (hz:c.size ≤ 1073741824) {keep:Nat} (h1:1 ≤ keep) (h8:keep ≤ 8) (hg:∀ k,1 ≤ k → k ≤ keep - 1 → viewM F (oldN k)=none → viewM F (oldN (k + 1))=none):Res N F (keptM F keep) (fun v=>v liveN=some c∧v tmpS=viewM F tmpS∧v tmpO=none∧v (oldN 1)=some c∧(∀ k,1 ≤ k → k ≤ keep - 1 → v (oldN (k + 1))=viewM F (oldN k))∧∀ k,keep < k → k ≤ 8 → v (oldN k)=viewM F (oldN k)):=by
  have hr:=read_view h.on.up (al_named liveN al_live)
  rw [hc] at hr
  have hr1:(readM F liveN).1=c:=hr.1
  have hr2:(readM F liveN).2=0:=of_decide_eq_true hr.2
  unfold keptM
  rw [if_pos hr2,hr1]
  refine (res_written h al_O hz).and (fun G hG hvG=>?_)
  have ho:∀ k,viewM G (oldN k)=viewM F (oldN k):=fun k=>by rw [hvG,updv_ne _ _ (ne_oldP k)]
  refine (res_rens (keep - 1) (by omega) hG (fun k a b e=>?_)).and (fun G2 hG2 hv2=>?_)
  · rw [ho] at e ⊢
    exact hg k a b e
  · have hO:viewM G2 tmpO=some c:=by rw [hv2.2 _ (fun k _ _=>ne_oldO k),hvG,updv_at]
    refine (res_rename hG2 hO (old_al (by omega) (by omega))).weak (fun v e=>?_)
    subst e
    have hL:viewM G2 liveN=some c:=by rw [hv2.2 _ (fun k _ _ e=>ne_oldL k e.symm),hvG,updv_ne _ _ (fun e=>ne_TO e.symm),hc]
    refine ⟨?_,?_,?_,?_,fun k a b=>?_,fun k a b=>?_⟩
    · rw [updv_ne _ _ (fun e=>ne_oldL 1 e.symm),updv_ne _ _ (fun e=>ne_TO e.symm)]; exact hL
    · rw [updv_ne _ _ (ne_oldS 1),updv_ne _ _ ne_SO,hv2.2 _ (fun k _ _=>ne_oldS k),hvG,updv_ne _ _ ne_SO]
    · rw [updv_ne _ _ (ne_oldO 1),updv_at]
    · rw [updv_at]
    · rw [updv_ne _ _ (old_ne (by omega) (by omega) (by omega)),updv_ne _ _ (ne_oldP _),hv2.1 k a b,ho]
    · rw [updv_ne _ _ (old_ne (by omega) (by omega) (by omega)),updv_ne _ _ (ne_oldP _),hv2.2 _ (fun j a1 b1=>old_ne (by omega) (by omega) (by omega)),ho]
structure KV (v:ByteArray → Option ByteArray) (cur:Option ByteArray) (olds:List ByteArray) (keep:Nat):Prop where
  live:v liveN=cur
  ts:v tmpS=none
  to:v tmpO=none
  old:∀ k,k < 8 → v (oldN (k + 1))=olds[k]?
  few:olds.length ≤ keep
def nextO (cur:Option ByteArray) (olds:List ByteArray) (keep:Nat):List ByteArray:=match cur with
  | some c=>(c :: olds).take keep
  | none=>olds
theorem nextO_len {cur:Option ByteArray} {olds:List ByteArray} {keep:Nat} (h:olds.length ≤ keep):(nextO cur olds keep).length ≤ keep:=by
  unfold nextO
  cases cur with
  | none=>exact h
  | some c=>show ((c :: olds).take keep).length ≤ keep; rw [List.length_take]; omega
theorem res_steps {N:Nat} {F:Fs} (h:Gd N F) {cur:Option ByteArray} {olds:List ByteArray} {keep:Nat} {t:ByteArray} (hk:KV (viewM F) cur olds keep) (ht:t.size ≤ 1073741824) (hc:∀ c,cur=some c → c.size ≤ 1073741824) (h8:keep ≤ 8):Res N F (stepsM F t keep) (fun v=>KV v (some t) (nextO cur olds keep) keep):=by
  unfold stepsM
  refine (res_written h al_S ht).and (fun G hG hvG=>?_)
  have gL:viewM G liveN=cur:=by rw [hvG,updv_ne _ _ (fun e=>ne_TS e.symm),hk.live]
  have gS:viewM G tmpS=some t:=by rw [hvG,updv_at]
  have gO:viewM G tmpO=none:=by rw [hvG,updv_ne _ _ (fun e=>ne_SO e.symm),hk.to]
  have gK:∀ k,k < 8 → viewM G (oldN (k + 1))=olds[k]?:=fun k hk2=>by rw [hvG,updv_ne _ _ (ne_oldT _)]; exact hk.old k hk2
  have hth:=there_view hG al_live
  rw [gL] at hth
  refine Res.and (P:=fun v=>v tmpS=some t∧v tmpO=none∧∀ k,k < 8 → v (oldN (k + 1))=(nextO cur olds keep)[k]?) ?_ (fun G2 hG2 hv2=>?_)
  · rw [hth]
    rcases cur with _ | c
    · show Res N G (if (decide (0 < keep) && false)=true then _ else _) _
      rw [Bool.and_false,if_neg (by decide)]
      exact Res.done hG ⟨gS,gO,gK⟩
    · show Res N G (if (decide (0 < keep) && true)=true then _ else _) _
      by_cases h0:0 < keep
      · rw [if_pos (by rw [decide_eq_true h0]; rfl)]
        refine (res_kept hG gL (hc c rfl) h0 h8 (fun k a b e=>?_)).weak (fun v hv=>?_)
        · have e1:=gK (k - 1) (by omega)
          rw [show k - 1 + 1=k by omega] at e1
          rw [e1] at e
          rw [gK k (by omega)]
          rw [List.getElem?_eq_none_iff] at e ⊢
          omega
        · obtain ⟨v1,v2,v3,v4,v5,v6⟩:=hv
          refine ⟨by rw [v2,gS],v3,fun k hk8=>?_⟩
          show _=((c :: olds).take keep)[k]?
          by_cases hkk:k < keep
          · rw [List.getElem?_take_of_lt hkk]
            rcases Nat.eq_zero_or_pos k with e | e
            · subst e; rw [v4]; rfl
            · rw [v5 k e (by omega)]
              have e1:=gK (k - 1) (by omega)
              rw [show k - 1 + 1=k by omega] at e1
              rw [e1]
              obtain ⟨j,rfl⟩:∃ j,k=j + 1:=⟨k - 1,by omega⟩
              rfl
          · rw [v6 (k + 1) (by omega) (by omega),gK k hk8,List.getElem?_eq_none_iff.2 (by have:=hk.few; omega),List.getElem?_eq_none_iff.2 (by rw [List.length_take]; omega)]
      · rw [if_neg (by rw [decide_eq_false h0]; decide)]
        have e0:keep=0:=by omega
        refine Res.done hG ⟨gS,gO,fun k hk8=>?_⟩
        rw [gK k hk8]
        have:=hk.few
        rw [List.getElem?_eq_none_iff.2 (by omega)]
        show none=((c :: olds).take keep)[k]?
        rw [List.getElem?_eq_none_iff.2 (by rw [List.length_take]; omega)]
  · obtain ⟨v2,v3,v4⟩:=hv2
    refine (res_rename hG2 v2 al_live).and (fun G3 hG3 hv3=>?_)
    have w1:viewM G3 liveN=some t:=by rw [hv3,updv_at]
    have w2:viewM G3 tmpS=none:=by rw [hv3,updv_ne _ _ ne_TS,updv_at]
    have w3:viewM G3 tmpO=none:=by rw [hv3,updv_ne _ _ ne_TO,updv_ne _ _ (fun e=>ne_SO e.symm),v3]
    have w4:∀ k,k < 8 → viewM G3 (oldN (k + 1))=(nextO cur olds keep)[k]?:=fun k hk8=>by
      rw [hv3,updv_ne _ _ (ne_oldL _),updv_ne _ _ (ne_oldT _)]; exact v4 k hk8
    have hlen:=nextO_len (cur:=cur) hk.few
    rw [rems_none (8 - keep) (by omega) hG3 (fun k a b=>by
      have:=w4 (k - 1) (by omega)
      rw [show k - 1 + 1=k by omega] at this
      rw [this]
      exact List.getElem?_eq_none_iff.2 (by omega))]
    rw [andM_ok rfl]
    refine (res_syncDir hG3).weak (fun v e=>?_)
    subst e
    exact ⟨w1,w2,w3,w4,hlen⟩
theorem clean_spent {N:Nat} {F:Fs} (h:Gd N F) (hs:N ≤ F.steps) {n:ByteArray} (ha:n ∈ alN):Gd N (cleanM F n)∧N ≤ (cleanM F n).steps∧viewM (cleanM F n)=updV (viewM F) n none:=by
  unfold cleanM
  rw [there_view h ha]
  rcases hv:viewM F n with _ | v
  · show Gd N (if false=true then _ else _)∧N ≤ (if false=true then _ else _:Fs).steps∧viewM (if false=true then _ else _)=_
    rw [if_neg (by decide)]
    exact ⟨h,hs,(updv_same hv).symm⟩
  · show Gd N (if true=true then _ else _)∧N ≤ (if true=true then _ else _:Fs).steps∧viewM (if true=true then _ else _)=_
    rw [if_pos rfl]
    have hr:=res_remove h hv
    obtain ⟨a,b⟩:=hr.spent hs
    exact ⟨hr.1,Nat.le_trans hs hr.2.1,b⟩
theorem save_on {N:Nat} {F:Fs} (h:Gd N F) {cur:Option ByteArray} {olds:List ByteArray} {keep:Nat} {t:ByteArray} (hk:KV (viewM F) cur olds keep) (ht:t.size ≤ 1073741824) (hc:∀ c,cur=some c → c.size ≤ 1073741824) (h8:keep ≤ 8):Gd N (saveM F t (keep:Int)).1∧F.steps ≤ (saveM F t (keep:Int)).1.steps∧(((saveM F t (keep:Int)).2=0∧KV (viewM (saveM F t (keep:Int)).1) (some t) (nextO cur olds keep) keep) ∨ ((saveM F t (keep:Int)).2=200∧F.steps < N∧viewM (saveM F t (keep:Int)).1 tmpS=none∧viewM (saveM F t (keep:Int)).1 tmpO=none)):=by
  unfold saveM
  rw [if_neg (by omega),if_neg (by omega),Int.toNat_natCast]
  obtain ⟨h1,h2,h3⟩:=res_steps h (t:=t) hk ht hc h8
  simp only
  rcases h3 with ⟨e,h3⟩ | ⟨e,h3,h4⟩
  · rw [if_pos e]
    exact ⟨h1,h2,Or.inl ⟨e,h3⟩⟩
  · rw [if_neg (by rw [e]; decide)]
    obtain ⟨a1,a2,a3⟩:=clean_spent h1 h4 al_S
    obtain ⟨b1,b2,b3⟩:=clean_spent a1 a2 al_O
    refine ⟨b1,Nat.le_trans (Nat.le_of_lt h3) b2,Or.inr ⟨e,h3,?_,?_⟩⟩
    · show viewM (cleanM (cleanM (stepsM F t keep).1 tmpS) tmpO) tmpS=none
      rw [b3,updv_ne _ _ ne_SO,a3,updv_at]
    · show viewM (cleanM (cleanM (stepsM F t keep).1 tmpS) tmpO) tmpO=none
      rw [b3,updv_at]
theorem tidys_no:∀ (l:List ByteArray) (n:Nat) (F:Fs),(∀ x ∈ l,isTmp x=false) → tidysM l n F=(F,(n:Int),0)
  | [],n,F,_=>rfl
  | x :: l,n,F,h=>by
    unfold tidysM
    rw [if_neg (by rw [h x (List.mem_cons_self ..)]; decide)]
    exact tidys_no l n F (fun y hy=>h y (List.mem_cons_of_mem _ hy))
theorem no_tmp {N:Nat} {F:Fs} (h:Gd N F) (h1:viewM F tmpS=none) (h2:viewM F tmpO=none):∀ x ∈ F.dir,isTmp x.1=false:=fun x hx=>by
  have hf:¬ findM F.dir x.1 < 0:=by
    rw [findM_in h.ok.dk.rise hx]
    have:=h.ok.dk.ge x hx
    omega
  cases hT:isTmp x.1 with
  | false=>rfl
  | true =>
    exfalso
    rcases al_tmp _ (h.al _ hf) hT with e | e
    · rw [← e] at h1; unfold viewM at h1; rw [if_neg hf] at h1; cases h1
    · rw [← e] at h2; unfold viewM at h2; rw [if_neg hf] at h2; cases h2
theorem load_kv {N:Nat} {F:Fs} (h:Gd N F) {cur:Option ByteArray} {olds:List ByteArray} {keep:Nat} (hk:KV (viewM F) cur olds keep):loadM F=(F,(orNo cur).1,(orNo cur).2,0):=by
  have hL:listM F=(F.dir.map (·.1),0):=by unfold listM; rw [h.on.up]; rfl
  have hn:=no_tmp h hk.ts hk.to
  have e4:tidyM F=(F,0,0):=by
    unfold tidyM
    simp only [hL,if_true]
    rw [tidys_no _ 0 F (fun x hx=>by
      obtain ⟨y,hy,rfl⟩:=List.mem_map.1 hx
      exact hn y hy)]
    rfl
  obtain ⟨r1,r2⟩:=read_view h.on.up (al_named liveN al_live)
  rw [hk.live] at r1 r2
  unfold loadM
  simp only [e4,if_true]
  rw [r1,r2]
theorem olders_kv {N:Nat} {F:Fs} (h:Gd N F) {cur:Option ByteArray} {olds:List ByteArray} {keep:Nat} (hk:KV (viewM F) cur olds keep):∀ m,m ≤ 8 → oldersM F m=olds.take m
  | 0,_=>rfl
  | m + 1,hm=>by
    unfold oldersM
    rw [olders_kv h hk m (by omega),there_view h (old_al (k:=m + 1) (by omega) hm),hk.old m (by omega),(read_view h.on.up (al_named _ (old_al (k:=m + 1) (by omega) hm))).1,hk.old m (by omega),List.take_add_one]
    cases olds[m]? <;> rfl
theorem older_kv {N:Nat} {F:Fs} (h:Gd N F) {cur:Option ByteArray} {olds:List ByteArray} {keep:Nat} (hk:KV (viewM F) cur olds keep) (h8:keep ≤ 8):olderM F=(olds,0):=by
  have hL:listM F=(F.dir.map (·.1),0):=by unfold listM; rw [h.on.up]; rfl
  unfold olderM
  rw [hL]
  show (oldersM F 8,(0:Int))=_
  rw [olders_kv h hk 8 (Nat.le_refl _),List.take_of_length_le (by have:=hk.few; omega)]
structure Kp (F:Fs) (cur:Option ByteArray) (olds:List ByteArray) (keep:Nat):Prop where
  gd:Gd 0 F
  fl:F.fails=[]
  kv:KV (viewM F) cur olds keep
  cz:∀ c,cur=some c → c.size ≤ 1073741824
  wh:Wh F (fun x=>x=orNo cur)
theorem Kp.new (keep:Nat):Kp newM none [] keep:=by
  refine ⟨⟨⟨rfl,rfl,fun f hf=>by cases hf⟩,⟨[],newOk⟩,fun m hm=>absurd (show findM newM.dir m < 0 from by show (-1:Int) < 0; decide) hm⟩,rfl,⟨rfl,rfl,rfl,fun k _=>?_,Nat.zero_le _⟩,(fun c h=>by cases h),Wh.new rfl⟩
  rfl
theorem calm_ite {c:Prop} [Decidable c] {a b:Fs × Int} (ha:c → Calm a.1) (hb:¬ c → Calm b.1):Calm (if c then a else b).1:=by
  by_cases h:c
  · rw [if_pos h]; exact ha h
  · rw [if_neg h]; exact hb h
theorem calmClo:Clo Calm:=by
  refine ⟨fun h n=>?_,fun h n d=>?_,fun h n=>?_,fun h n t=>?_,fun h n=>?_,fun h=>?_⟩
  · unfold createM
    exact calm_ite (fun _=>h) (fun _=>calm_ite (fun _=>calm_ite (fun _=>h) (fun _=>by simp only [stepM_calm h,if_true]; exact ⟨h.up,h.fl,h.cr⟩)) (fun _=>h))
  · unfold appendM
    exact calm_ite (fun _=>calm_ite (fun _=>h) (fun _=>by simp only [stepM_calm h]; exact ⟨h.up,h.fl,h.cr⟩)) (fun _=>h)
  · unfold syncM
    exact calm_ite (fun _=>by simp only [stepM_calm h,if_true]; exact ⟨h.up,h.fl,h.cr⟩) (fun _=>h)
  · unfold renameM
    exact calm_ite (fun _=>h) (fun _=>calm_ite (fun _=>by simp only [stepM_calm h,if_true]; exact ⟨h.up,h.fl,h.cr⟩) (fun _=>h))
  · unfold removeM
    exact calm_ite (fun _=>by simp only [stepM_calm h,if_true]; exact ⟨h.up,h.fl,h.cr⟩) (fun _=>h)
  · unfold syncDirM
    exact calm_ite (fun _=>h) (fun _=>by simp only [stepM_calm h,if_true]; exact ⟨h.up,h.fl,h.cr⟩)
theorem Kp.save {F:Fs} {cur:Option ByteArray} {olds:List ByteArray} {keep:Nat} (h:Kp F cur olds keep) {t:ByteArray} (ht:t.size ≤ 1073741824) (h8:keep ≤ 8):(saveM F t (keep:Int)).2=0∧Kp (saveM F t (keep:Int)).1 (some t) (nextO cur olds keep) keep:=by
  obtain ⟨h1,_,h3 | h3⟩:=save_on h.gd (t:=t) h.kv ht h.cz h8
  · have hc:=calmClo.save (show Calm F from ⟨h.gd.on.up,h.fl,h.gd.on.cr⟩) t (keep:Int)
    have hw:=((h.wh.weak (M':=fun x=>x=orNo cur ∨ x=(t,true)) (fun x hx=>Or.inl hx)).save (t:=t) (keep:=(keep:Int)) (fun _=>Or.inr rfl)).2 h3.1
    exact ⟨h3.1,h1,hc.fl,h3.2,fun c e=>by injection e with e; rw [← e]; exact ht,hw⟩
  · exact absurd h3.2.1 (Nat.not_lt_zero _)
end Go.Proofs.YtbgbmfmgdgalbaaGreatDoor
namespace Go.Proofs.YtbgbmfmgdgalbaaGreatDoor
open Go.RowKit Go.Maps
set_option linter.unusedVariables false
set_option linter.unusedSimpArgs false
structure Bt (W:World) (g:Nat) (X:Gh) (F:Fs) (w':World) (X':Gh) (F':Fs):Prop where
  md:ModP (Own g F X) W w'
  own:∀ k,Own g F' X' k → Own g F X k ∨ W.heap.size ≤ k
theorem Bt.of {W w':World} {g:Nat} {X X':Gh} {F F':Fs} (h:Bec W g X F w' X' F'):Bt W g X F w' X' F':=⟨h.md,h.own⟩
theorem Bt.refl (W:World) (g:Nat) (X:Gh) (F:Fs):Bt W g X F W X F:=⟨ModP.refl _ _,fun _ h=>Or.inl h⟩
theorem Bt.trans {W w1 w2:World} {g:Nat} {X X1 X2:Gh} {F F1 F2:Fs} (h:Bt W g X F w1 X1 F1) (k:Bt w1 g X1 F1 w2 X2 F2):Bt W g X F w2 X2 F2:=by
  refine ⟨h.md.andThen k.md (fun j hj hs=>(h.own j hs).resolve_right (by omega)),fun q hq=>?_⟩
  rcases k.own q hq with a | a
  · exact h.own q a
  · exact Or.inr (Nat.le_trans h.md.size a)
theorem Bt.after {W w1 w2:World} {g:Nat} {X X1:Gh} {F F1:Fs} (h:Bt W g X F w1 X1 F1) (hb:Below w1.heap.size w1 w2):Bt W g X F w2 X1 F1:=⟨h.md.andThen (S':=fun _=>False) (ModP.below hb) (fun _ _ q=>q.elim),h.own⟩
theorem Bt.pre {W0 W w1:World} {g:Nat} {X X1:Gh} {F F1:Fs} (hb:Below W0.heap.size W0 W) (h:Bt W g X F w1 X1 F1):Bt W0 g X F w1 X1 F1:=
  ⟨(ModP.below (S:=fun _=>False) hb).weak (fun _ _ q=>q.elim) |>.trans (h.md.weak (fun _ _ q=>q)) |> fun m=>m,fun k hk=>(h.own k hk).imp id (fun q=>Nat.le_trans hb.size q)⟩
def CalP (w0 W:World) (g:Nat) (X:Gh) (F F':Fs) (i:Nat) (v:Value) (e:Ending) (w':World):Prop:=e=.returned v∧∃ X',St w0 w' g X' F' i∧Bt W g X F w' X' F'
def SaveC:Prop:=∀ (w0 W:World) (g:Nat) (X:Gh) (F:Fs) (i:Nat) (t:ByteArray) (keep:Int),St w0 W g X F i → Inv F i → i + 32830 ≤ 3298534883000 → t.size ≤ 140737488355328 → -9223372036854775808 ≤ keep∧keep ≤ 9223372036854775807 → Calls Tryz.prog 9 #[ptr (some g),.string t,.int .i64 keep] W (CalP w0 W g X F (saveM F t keep).1 (i + 32830) (.int .i64 (saveM F t keep).2))
def LoadC:Prop:=∀ (w0 W:World) (g:Nat) (X:Gh) (F:Fs) (i:Nat),St w0 W g X F i → Inv F i → i + 32830 ≤ 3298534883000 → Calls Tryz.prog 11 #[ptr (some g)] W (CalP w0 W g X F (loadM F).1 (i + 65) (.tuple #[.string (loadM F).2.1,.bool (loadM F).2.2.1,.int .i64 (loadM F).2.2.2]))
def TidyC:Prop:=∀ (w0 W:World) (g:Nat) (X:Gh) (F:Fs) (i:Nat),St w0 W g X F i → Inv F i → i + 32830 ≤ 3298534883000 → Calls Tryz.prog 33 #[ptr (some g)] W (CalP w0 W g X F (tidyM F).1 (i + 65) (.tuple #[.int .i64 (tidyM F).2.1,.int .i64 (tidyM F).2.2]))
def OlderP (W:World) (L:List ByteArray) (n:Nat) (r:Int) (e:Ending) (w':World):Prop:=∃ P c,e=.returned (.tuple #[.slice P n c,.int .i64 r])∧w'.ownsRow W.heap.size 9 1 (.slice P n c) n (psE.fl L)∧Below W.heap.size W w'
def OlderC:Prop:=∀ (w0 W:World) (g:Nat) (X:Gh) (F:Fs) (i:Nat),St w0 W g X F i → Inv F i → i + 32830 ≤ 3298534883000 → Calls Tryz.prog 10 #[ptr (some g)] W (OlderP W (olderM F).1 (olderM F).1.length (olderM F).2)
theorem save_no {F:Fs} {t:ByteArray} {keep:Int} (h:keep < 0 ∨ 8 < keep):saveM F t keep=(F,1):=by unfold saveM; rw [if_pos h]
set_option maxHeartbeats 4000000 in
set_option maxRecDepth 400000 in
theorem works24_any (hS:SaveC) (hL:LoadC) (hO:OlderC) (w:World):Calls Tryz.prog 8 #[] w fun e w'=>e=.returned (.bool true)∧Below w.heap.size w w':=by
  have HNW:Hid _:=NewW_any w
  have k0:=Kp.new 2
  have k1:=k0.save (t:=⟨#[65]⟩) (by decide) (by decide)
  have k2:=k1.2.save (t:=⟨#[66]⟩) (by decide) (by decide)
  have i1:Inv (saveM newM ⟨#[65]⟩ 2).1 32830:=(Inv.new.save ⟨#[65]⟩ 2).more (by omega)
  have i2:Inv (saveM (saveM newM ⟨#[65]⟩ 2).1 ⟨#[66]⟩ 2).1 65660:=(i1.save ⟨#[66]⟩ 2).more (by omega)
  obtain ⟨F1,e1,hs1⟩:∃ F1 e1,saveM newM ⟨#[65]⟩ 2=(F1,e1):=⟨_,_,rfl⟩
  have hs1':saveM newM ⟨#[65]⟩ ((2:Nat):Int)=(F1,e1):=hs1
  rw [hs1'] at k1 k2
  rw [hs1] at i1 i2
  obtain ⟨F2,e2,hs2⟩:∃ F2 e2,saveM F1 ⟨#[66]⟩ 2=(F2,e2):=⟨_,_,rfl⟩
  have hs2':saveM F1 ⟨#[66]⟩ ((2:Nat):Int)=(F2,e2):=hs2
  simp only at k1 k2 i1 i2
  rw [hs2'] at k2
  rw [hs2] at i2
  simp only at k2 i2
  obtain ⟨rfl,k1⟩:=k1
  obtain ⟨rfl,k2⟩:=k2
  have hl:=load_kv k2.gd k2.kv
  have hol:=older_kv k2.gd k2.kv (by decide)
  have HS1:Hid (∀ W g X,St w W g X newM 0 → Calls Tryz.prog 9 #[.pointer (some ⟨g,0,none⟩),.string { data:=#[65] },.int .i64 2] W (CalP w W g X newM F1 32830 (.int .i64 0))):=fun W g X h=>by
    have:=hS w W g X newM 0 ⟨#[65]⟩ 2 h Inv.new (by omega) (by decide) (by omega)
    rw [hs1] at this
    exact this
  have HS2:Hid (∀ W g X,St w W g X F1 32830 → Calls Tryz.prog 9 #[.pointer (some ⟨g,0,none⟩),.string { data:=#[66] },.int .i64 2] W (CalP w W g X F1 F2 65660 (.int .i64 0))):=fun W g X h=>by
    have:=hS w W g X F1 32830 ⟨#[66]⟩ 2 h i1 (by omega) (by decide) (by omega)
    rw [hs2] at this
    exact this
  have HL:Hid (∀ W g X,St w W g X F2 65660 → Calls Tryz.prog 11 #[.pointer (some ⟨g,0,none⟩)] W (CalP w W g X F2 F2 65725 (.tuple #[.string { data:=#[66] },.bool true,.int .i64 0]))):=fun W g X h=>by
    have:=hL w W g X F2 65660 h i2 (by omega)
    rw [hl] at this
    exact this
  have HO:Hid (∀ W g X,St w W g X F2 65725 → Calls Tryz.prog 10 #[.pointer (some ⟨g,0,none⟩)] W (OlderP W [⟨#[65]⟩] 1 0)):=fun W g X h=>by
    have:=hO w W g X F2 65725 h (i2.more (by omega)) (by omega)
    rw [hol] at this
    exact this
  have HS3:Hid (∀ W g X,St w W g X F2 65725 → Calls Tryz.prog 9 #[.pointer (some ⟨g,0,none⟩),.string { data:=#[67] },.int .i64 (-1)] W (CalP w W g X F2 F2 98555 (.int .i64 1))):=fun W g X h=>by
    have:=hS w W g X F2 65725 ⟨#[67]⟩ (-1) h (i2.more (by omega)) (by omega) (by decide) (by omega)
    rw [save_no (by omega)] at this
    exact this
  have HS4:Hid (∀ W g X,St w W g X F2 98555 → Calls Tryz.prog 9 #[.pointer (some ⟨g,0,none⟩),.string { data:=#[67] },.int .i64 9] W (CalP w W g X F2 F2 131385 (.int .i64 1))):=fun W g X h=>by
    have:=hS w W g X F2 98555 ⟨#[67]⟩ 9 h (i2.more (by omega)) (by omega) (by decide) (by omega)
    rw [save_no (by omega)] at this
    exact this
  clear hS hL hO k0 k1 k2 i1 i2 hs1 hs1' hs2 hs2' hl hol
  go_enter Tryz.func8,Tryz.ntmps8
  go_wp2_with fail
  refine (show Calls _ _ _ _ _ from HNW.out).mono ?_
  rintro e w1 ⟨g,X,rfl,hk⟩
  have H1:Hid (St w w1 g X newM 0):=St.new hk
  clear hk HNW
  have HQ:Hid _:=HS1.out w1 g X H1.out
  go_wp2_with fail
  refine (show Calls _ _ _ _ _ from HQ.out).mono ?_
  rintro e w2 ⟨rfl,X2,h2,_⟩
  have H2:Hid (St w w2 g X2 F1 32830):=h2
  clear h2 HQ H1 HS1
  have HQ:Hid _:=HS2.out w2 g X2 H2.out
  go_wp2_with fail
  refine (show Calls _ _ _ _ _ from HQ.out).mono ?_
  rintro e w3 ⟨rfl,X3,h3,_⟩
  have H3:Hid (St w w3 g X3 F2 65660):=h3
  clear h3 HQ H2 HS2
  have HQ:Hid _:=HL.out w3 g X3 H3.out
  go_wp2_with fail
  refine (show Calls _ _ _ _ _ from HQ.out).mono ?_
  rintro e w4 ⟨rfl,X4,h4,_⟩
  have H4:Hid (St w w4 g X4 F2 65725):=h4
  clear h4 HQ H3 HL
  have HQ:Hid _:=HO.out w4 g X4 H4.out
  go_wp2_with fail
  refine (show Calls _ _ _ _ _ from HQ.out).mono ?_
  rintro e w5 ⟨P,c,rfl,ho,hb⟩
  have H5:Hid (St w w5 g X4 F2 65725):=H4.out.on hb
  obtain ⟨r,o,c',he,hc⟩:=(KR.own (E:=psE) (v:=.slice P 1 c) (l:=[⟨#[65]⟩]) ho rfl).cell psOk (j:=0) (by decide)
  injection he with he q1 q2
  subst he
  have hc0:=hc 0 (.string ⟨#[65]⟩) rfl
  simp only [Nat.zero_mul,Nat.add_zero] at hc0
  clear hc ho hb HQ H4 HO q1 q2
  have HQ:Hid _:=HS3.out w5 g X4 H5.out
  go_wp2_with fail
  refine (show Calls _ _ _ _ _ from HQ.out).mono ?_
  rintro e w6 ⟨rfl,X6,h6,_⟩
  have H6:Hid (St w w6 g X6 F2 98555):=h6
  clear h6 HQ H5 HS3 hc0
  have HQ:Hid _:=HS4.out w6 g X6 H6.out
  go_wp2_with fail
  refine (show Calls _ _ _ _ _ from HQ.out).mono ?_
  rintro e w7 ⟨rfl,X7,h7,_⟩
  have H7:Hid (St w w7 g X7 F2 131385):=h7
  clear h7 HQ H6 HS4
  go_wp2
  go_returns
  exact ⟨rfl,H7.out.bel⟩
end Go.Proofs.YtbgbmfmgdgalbaaGreatDoor
namespace Go.Proofs.YtbgbmfmgdgalbaaGreatDoor
open Go.RowKit Go.Maps
set_option linter.unusedVariables false
set_option linter.unusedSimpArgs false
structure Qo where
  k:Int
  t:ByteArray
  m:Int
  a:Int
  p:List Int
  n:ByteArray
structure QoOk (o:Qo):Prop where
  t:o.t.size ≤ 140737488355328
  n:o.n.size ≤ 140737488355328
  p:o.p.length ≤ 17592186044416
  m:-9223372036854775808 ≤ o.m∧o.m ≤ 9223372036854775807
def qoArr (o:Qo) (pv:Value):Array Value:=#[.int .i64 o.k,.string o.t,.int .i64 o.m,.int .i64 o.a,pv,.string o.n]
theorem szQ:(Tryz.prog.info? 47).map (·.size)=some 6:=by kernel_rfl
theorem row6 {W:World} {g T:Nat} {a0 a1 a2 a3 a4 a5:Value} (h:W.heap[g]?=some (.cells #[a0,a1,a2,a3,a4,a5] T)):W.cell? ⟨g,0,none⟩=some a0∧W.cell? ⟨g,1,none⟩=some a1∧W.cell? ⟨g,2,none⟩=some a2∧W.cell? ⟨g,3,none⟩=some a3∧W.cell? ⟨g,4,none⟩=some a4∧W.cell? ⟨g,5,none⟩=some a5:=by
  refine ⟨?_,?_,?_,?_,?_,?_⟩ <;> (rw [cell_of_row _ _ _ _ _ _ h]; rfl)
end Go.Proofs.YtbgbmfmgdgalbaaGreatDoor
