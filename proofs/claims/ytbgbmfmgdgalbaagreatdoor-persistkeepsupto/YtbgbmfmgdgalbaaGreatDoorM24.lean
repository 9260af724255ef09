import Derived.Test.YtbgbmfmgdgalbaaGreatDoorM23
namespace Go.Proofs.YtbgbmfmgdgalbaaGreatDoor
open Go.RowKit Go.Maps
set_option linter.unusedVariables false
set_option linter.unusedSimpArgs false
theorem al_live:liveN ∈ alN:=by unfold alN; simp only [List.mem_cons,true_or,or_true]
theorem al_S:tmpS ∈ alN:=by unfold alN; simp only [List.mem_cons,true_or,or_true]
theorem al_O:tmpO ∈ alN:=by unfold alN; simp only [List.mem_cons,true_or,or_true]
theorem ne_oldO (i:Nat):tmpO ≠ oldN i:=fun e=>by
  have h:=congrArg (fun b:ByteArray=>b.data[0]?) e
  have h2:(oldN i).data[0]?=some 100:=rfl
  have h3:tmpO.data[0]?=some 116:=rfl
  simp only [h2,h3] at h
  exact absurd h (by decide)
theorem ne_oldT (i:Nat):oldN i ≠ tmpS:=fun e=>ne_oldS i e.symm
theorem ne_oldP (i:Nat):oldN i ≠ tmpO:=fun e=>ne_oldO i e.symm
theorem old_ne {a b:Nat} (ha:a ≤ 9) (hb:b ≤ 9) (hab:a ≠ b):oldN a ≠ oldN b:=fun e=>hab (old_inj ha hb e)
theorem rems_none:∀ (m:Nat) {N:Nat} {F:Fs},m ≤ 8 → Gd N F → (∀ k,8 - m < k → k ≤ 8 → viewM F (oldN k)=none) → remsM m F=(F,0)
  | 0,_,_,_,_,_=>rfl
  | m + 1,N,F,hm,h,hv=>by
    unfold remsM
    rw [there_view h (old_al (k:=8 - m) (by omega) (by omega)),hv (8 - m) (by omega) (by omega)]
    show (if false=true then _ else _)=_
    rw [if_neg (by decide)]
    exact rems_none m (by omega) h (fun k h1 h2=>hv k (by omega) h2)
theorem res_kept {N:Nat} {F:Fs} (h:Gd N F) {c:ByteArray} (hc:viewM F liveN=some c) (hz:c.size ≤ 1073741824) {keep:Nat} (h1:1 ≤ keep) (h8:keep ≤ 8) (hg:∀ k,1 ≤ k → k ≤ keep - 1 → viewM F (oldN k)=none → viewM F (oldN (k + 1))=none):Res N F (keptM F keep) (fun v=>v liveN=some c∧v tmpS=viewM F tmpS∧v tmpO=none∧v (oldN 1)=some c∧(∀ k,1 ≤ k → k ≤ keep - 1 → v (oldN (k + 1))=viewM F (oldN k))∧∀ k,keep < k → k ≤ 8 → v (oldN k)=viewM F (oldN k)):=by
  have hr:=read_view h.on.up (al_named liveN al_live)
  rw [hc] at hr
  have hr1:(readM F liveN).1=c:=hr.1
  have hr2:(readM F liveN).2=0:=of_decide_eq_true hr.2
  unfold keptM
  rw [if_pos hr2,hr1]
  refine (res_written h al_O hz).and (fun G hG hvG=>?_)
  have ho:∀ k,viewM G (oldN k)=viewM F (oldN k):=fun k=>by rw [hvG,updv_ne _ _ (ne_oldP k)]
  refine (res_rens (keep - 1) (by omega) hG (fun k a b e=>?_)).and (fun G2 hG2 hv2=>?_)
  · rw [ho] at e ⊢
    exact hg k a b e
  · have hO:viewM G2 tmpO=some c:=by rw [hv2.2 _ (fun k _ _=>ne_oldO k),hvG,updv_at]
    refine (res_rename hG2 hO (old_al (by omega) (by omega))).weak (fun v e=>?_)
    subst e
    have hL:viewM G2 liveN=some c:=by rw [hv2.2 _ (fun k _ _ e=>ne_oldL k e.symm),hvG,updv_ne _ _ (fun e=>ne_TO e.symm),hc]
    refine ⟨?_,?_,?_,?_,fun k a b=>?_,fun k a b=>?_⟩
    · rw [updv_ne _ _ (fun e=>ne_oldL 1 e.symm),updv_ne _ _ (fun e=>ne_TO e.symm)]; exact hL
    · rw [updv_ne _ _ (ne_oldS 1),updv_ne _ _ ne_SO,hv2.2 _ (fun k _ _=>ne_oldS k),hvG,updv_ne _ _ ne_SO]
    · rw [updv_ne _ _ (ne_oldO 1),updv_at]
    · rw [updv_at]
    · rw [updv_ne _ _ (old_ne (by omega) (by omega) (by omega)),updv_ne _ _ (ne_oldP _),hv2.1 k a b,ho]
    · rw [updv_ne _ _ (old_ne (by omega) (by omega) (by omega)),updv_ne _ _ (ne_oldP _),hv2.2 _ (fun j a1 b1=>old_ne (by omega) (by omega) (by omega)),ho]
structure KV (v:ByteArray → Option ByteArray) (cur:Option ByteArray) (olds:List ByteArray) (keep:Nat):Prop where
  live:v liveN=cur
  ts:v tmpS=none
  to:v tmpO=none
  old:∀ k,k < 8 → v (oldN (k + 1))=olds[k]?
  few:olds.length ≤ keep
def nextO (cur:Option ByteArray) (olds:List ByteArray) (keep:Nat):List ByteArray:=match cur with
  | some c=>(c :: olds).take keep
  | none=>olds
theorem nextO_len {cur:Option ByteArray} {olds:List ByteArray} {keep:Nat} (h:olds.length ≤ keep):(nextO cur olds keep).length ≤ keep:=by
  unfold nextO
  cases cur with
  | none=>exact h
  | some c=>show ((c :: olds).take keep).length ≤ keep; rw [List.length_take]; omega
theorem res_steps {N:Nat} {F:Fs} (h:Gd N F) {cur:Option ByteArray} {olds:List ByteArray} {keep:Nat} {t:ByteArray} (hk:KV (viewM F) cur olds keep) (ht:t.size ≤ 1073741824) (hc:∀ c,cur=some c → c.size ≤ 1073741824) (h8:keep ≤ 8):Res N F (stepsM F t keep) (fun v=>KV v (some t) (nextO cur olds keep) keep):=by
  unfold stepsM
  refine (res_written h al_S ht).and (fun G hG hvG=>?_)
  have gL:viewM G liveN=cur:=by rw [hvG,updv_ne _ _ (fun e=>ne_TS e.symm),hk.live]
  have gS:viewM G tmpS=some t:=by rw [hvG,updv_at]
  have gO:viewM G tmpO=none:=by rw [hvG,updv_ne _ _ (fun e=>ne_SO e.symm),hk.to]
  have gK:∀ k,k < 8 → viewM G (oldN (k + 1))=olds[k]?:=fun k hk2=>by rw [hvG,updv_ne _ _ (ne_oldT _)]; exact hk.old k hk2
  have hth:=there_view hG al_live
  rw [gL] at hth
  refine Res.and (P:=fun v=>v tmpS=some t∧v tmpO=none∧∀ k,k < 8 → v (oldN (k + 1))=(nextO cur olds keep)[k]?) ?_ (fun G2 hG2 hv2=>?_)
  · rw [hth]
    rcases cur with _ | c
    · show Res N G (if (decide (0 < keep) && false)=true then _ else _) _
      rw [Bool.and_false,if_neg (by decide)]
      exact Res.done hG ⟨gS,gO,gK⟩
    · show Res N G (if (decide (0 < keep) && true)=true then _ else _) _
      by_cases h0:0 < keep
      · rw [if_pos (by rw [decide_eq_true h0]; rfl)]
        refine (res_kept hG gL (hc c rfl) h0 h8 (fun k a b e=>?_)).weak (fun v hv=>?_)
        · have e1:=gK (k - 1) (by omega)
          rw [show k - 1 + 1=k by omega] at e1
          rw [e1] at e
          rw [gK k (by omega)]
          rw [List.getElem?_eq_none_iff] at e ⊢
          omega
        · obtain ⟨v1,v2,v3,v4,v5,v6⟩:=hv
          refine ⟨by rw [v2,gS],v3,fun k hk8=>?_⟩
          show _=((c :: olds).take keep)[k]?
          by_cases hkk:k < keep
          · rw [List.getElem?_take_of_lt hkk]
            rcases Nat.eq_zero_or_pos k with e | e
            · subst e; rw [v4]; rfl
            · rw [v5 k e (by omega)]
              have e1:=gK (k - 1) (by omega)
              rw [show k - 1 + 1=k by omega] at e1
              rw [e1]
              obtain ⟨j,rfl⟩:∃ j,k=j + 1:=⟨k - 1,by omega⟩
              rfl
          · rw [v6 (k + 1) (by omega) (by omega),gK k hk8,List.getElem?_eq_none_iff.2 (by have:=hk.few; omega),List.getElem?_eq_none_iff.2 (by rw [List.length_take]; omega)]
      · rw [if_neg (by rw [decide_eq_false h0]; decide)]
        have e0:keep=0:=by omega
        refine Res.done hG ⟨gS,gO,fun k hk8=>?_⟩
        rw [gK k hk8]
        have:=hk.few
        rw [List.getElem?_eq_none_iff.2 (by omega)]
        show none=((c :: olds).take keep)[k]?
        rw [List.getElem?_eq_none_iff.2 (by rw [List.length_take]; omega)]
  · obtain ⟨v2,v3,v4⟩:=hv2
    refine (res_rename hG2 v2 al_live).and (fun G3 hG3 hv3=>?_)
    have w1:viewM G3 liveN=some t:=by rw [hv3,updv_at]
    have w2:viewM G3 tmpS=none:=by rw [hv3,updv_ne _ _ ne_TS,updv_at]
    have w3:viewM G3 tmpO=none:=by rw [hv3,updv_ne _ _ ne_TO,updv_ne _ _ (fun e=>ne_SO e.symm),v3]
    have w4:∀ k,k < 8 → viewM G3 (oldN (k + 1))=(nextO cur olds keep)[k]?:=fun k hk8=>by
      rw [hv3,updv_ne _ _ (ne_oldL _),updv_ne _ _ (ne_oldT _)]; exact v4 k hk8
    have hlen:=nextO_len (cur:=cur) hk.few
    rw [rems_none (8 - keep) (by omega) hG3 (fun k a b=>by
      have:=w4 (k - 1) (by omega)
      rw [show k - 1 + 1=k by omega] at this
      rw [this]
      exact List.getElem?_eq_none_iff.2 (by omega))]
    rw [andM_ok rfl]
    refine (res_syncDir hG3).weak (fun v e=>?_)
    subst e
    exact ⟨w1,w2,w3,w4,hlen⟩
theorem clean_spent {N:Nat} {F:Fs} (h:Gd N F) (hs:N ≤ F.steps) {n:ByteArray} (ha:n ∈ alN):Gd N (cleanM F n)∧N ≤ (cleanM F n).steps∧viewM (cleanM F n)=updV (viewM F) n none:=by
  unfold cleanM
  rw [there_view h ha]
  rcases hv:viewM F n with _ | v
  · show Gd N (if false=true then _ else _)∧N ≤ (if false=true then _ else _:Fs).steps∧viewM (if false=true then _ else _)=_
    rw [if_neg (by decide)]
    exact ⟨h,hs,(updv_same hv).symm⟩
  · show Gd N (if true=true then _ else _)∧N ≤ (if true=true then _ else _:Fs).steps∧viewM (if true=true then _ else _)=_
    rw [if_pos rfl]
    have hr:=res_remove h hv
    obtain ⟨a,b⟩:=hr.spent hs
    exact ⟨hr.1,Nat.le_trans hs hr.2.1,b⟩
theorem save_on {N:Nat} {F:Fs} (h:Gd N F) {cur:Option ByteArray} {olds:List ByteArray} {keep:Nat} {t:ByteArray} (hk:KV (viewM F) cur olds keep) (ht:t.size ≤ 1073741824) (hc:∀ c,cur=some c → c.size ≤ 1073741824) (h8:keep ≤ 8):Gd N (saveM F t (keep:Int)).1∧F.steps ≤ (saveM F t (keep:Int)).1.steps∧(((saveM F t (keep:Int)).2=0∧KV (viewM (saveM F t (keep:Int)).1) (some t) (nextO cur olds keep) keep) ∨ ((saveM F t (keep:Int)).2=200∧F.steps < N∧viewM (saveM F t (keep:Int)).1 tmpS=none∧viewM (saveM F t (keep:Int)).1 tmpO=none)):=by
  unfold saveM
  rw [if_neg (by omega),if_neg (by omega),Int.toNat_natCast]
  obtain ⟨h1,h2,h3⟩:=res_steps h (t:=t) hk ht hc h8
  simp only
  rcases h3 with ⟨e,h3⟩ | ⟨e,h3,h4⟩
  · rw [if_pos e]
    exact ⟨h1,h2,Or.inl ⟨e,h3⟩⟩
  · rw [if_neg (by rw [e]; decide)]
    obtain ⟨a1,a2,a3⟩:=clean_spent h1 h4 al_S
    obtain ⟨b1,b2,b3⟩:=clean_spent a1 a2 al_O
    refine ⟨b1,Nat.le_trans (Nat.le_of_lt h3) b2,Or.inr ⟨e,h3,?_,?_⟩⟩
    · show viewM (cleanM (cleanM (stepsM F t keep).1 tmpS) tmpO) tmpS=none
      rw [b3,updv_ne _ _ ne_SO,a3,updv_at]
    · show viewM (cleanM (cleanM (stepsM F t keep).1 tmpS) tmpO) tmpO=none
      rw [b3,updv_at]
theorem tidys_no:∀ (l:List ByteArray) (n:Nat) (F:Fs),(∀ x ∈ l,isTmp x=false) → tidysM l n F=(F,(n:Int),0)
  | [],n,F,_=>rfl
  | x :: l,n,F,h=>by
    unfold tidysM
    rw [if_neg (by rw [h x (List.mem_cons_self ..)]; decide)]
    exact tidys_no l n F (fun y hy=>h y (List.mem_cons_of_mem _ hy))
theorem no_tmp {N:Nat} {F:Fs} (h:Gd N F) (h1:viewM F tmpS=none) (h2:viewM F tmpO=none):∀ x ∈ F.dir,isTmp x.1=false:=fun x hx=>by
  have hf:¬ findM F.dir x.1 < 0:=by
    rw [findM_in h.ok.dk.rise hx]
    have:=h.ok.dk.ge x hx
    omega
  cases hT:isTmp x.1 with
  | false=>rfl
  | true =>
    exfalso
    rcases al_tmp _ (h.al _ hf) hT with e | e
    · rw [← e] at h1; unfold viewM at h1; rw [if_neg hf] at h1; cases h1
    · rw [← e] at h2; unfold viewM at h2; rw [if_neg hf] at h2; cases h2
theorem load_kv {N:Nat} {F:Fs} (h:Gd N F) {cur:Option ByteArray} {olds:List ByteArray} {keep:Nat} (hk:KV (viewM F) cur olds keep):loadM F=(F,(orNo cur).1,(orNo cur).2,0):=by
  have hL:listM F=(F.dir.map (·.1),0):=by unfold listM; rw [h.on.up]; rfl
  have hn:=no_tmp h hk.ts hk.to
  have e4:tidyM F=(F,0,0):=by
    unfold tidyM
    simp only [hL,if_true]
    rw [tidys_no _ 0 F (fun x hx=>by
      obtain ⟨y,hy,rfl⟩:=List.mem_map.1 hx
      exact hn y hy)]
    rfl
  obtain ⟨r1,r2⟩:=read_view h.on.up (al_named liveN al_live)
  rw [hk.live] at r1 r2
  unfold loadM
  simp only [e4,if_true]
  rw [r1,r2]
theorem olders_kv {N:Nat} {F:Fs} (h:Gd N F) {cur:Option ByteArray} {olds:List ByteArray} {keep:Nat} (hk:KV (viewM F) cur olds keep):∀ m,m ≤ 8 → oldersM F m=olds.take m
  | 0,_=>rfl
  | m + 1,hm=>by
    unfold oldersM
    rw [olders_kv h hk m (by omega),there_view h (old_al (k:=m + 1) (by omega) hm),hk.old m (by omega),(read_view h.on.up (al_named _ (old_al (k:=m + 1) (by omega) hm))).1,hk.old m (by omega),List.take_add_one]
    cases olds[m]? <;> rfl
theorem older_kv {N:Nat} {F:Fs} (h:Gd N F) {cur:Option ByteArray} {olds:List ByteArray} {keep:Nat} (hk:KV (viewM F) cur olds keep) (h8:keep ≤ 8):olderM F=(olds,0):=by
  have hL:listM F=(F.dir.map (·.1),0):=by unfold listM; rw [h.on.up]; rfl
  unfold olderM
  rw [hL]
  show (oldersM F 8,(0:Int))=_
  rw [olders_kv h hk 8 (Nat.le_refl _),List.take_of_length_le (by have:=hk.few; omega)]
structure Kp (F:Fs) (cur:Option ByteArray) (olds:List ByteArray) (keep:Nat):Prop where
  gd:Gd 0 F
  fl:F.fails=[]
  kv:KV (viewM F) cur olds keep
  cz:∀ c,cur=some c → c.size ≤ 1073741824
  wh:Wh F (fun x=>x=orNo cur)
theorem Kp.new (keep:Nat):Kp newM none [] keep:=by
  refine ⟨⟨⟨rfl,rfl,fun f hf=>by cases hf⟩,⟨[],newOk⟩,fun m hm=>absurd (show findM newM.dir m < 0 from by show (-1:Int) < 0; decide) hm⟩,rfl,⟨rfl,rfl,rfl,fun k _=>?_,Nat.zero_le _⟩,(fun c h=>by cases h),Wh.new rfl⟩
  rfl
theorem calm_ite {c:Prop} [Decidable c] {a b:Fs × Int} (ha:c → Calm a.1) (hb:¬ c → Calm b.1):Calm (if c then a else b).1:=by
  by_cases h:c
  · rw [if_pos h]; exact ha h
  · rw [if_neg h]; exact hb h
theorem calmClo:Clo Calm:=by
  refine ⟨fun h n=>?_,fun h n d=>?_,fun h n=>?_,fun h n t=>?_,fun h n=>?_,fun h=>?_⟩
  · unfold createM
    exact calm_ite (fun _=>h) (fun _=>calm_ite (fun _=>calm_ite (fun _=>h) (fun _=>by simp only [stepM_calm h,if_true]; exact ⟨h.up,h.fl,h.cr⟩)) (fun _=>h))
  · unfold appendM
    exact calm_ite (fun _=>calm_ite (fun _=>h) (fun _=>by simp only [stepM_calm h]; exact ⟨h.up,h.fl,h.cr⟩)) (fun _=>h)
  · unfold syncM
    exact calm_ite (fun _=>by simp only [stepM_calm h,if_true]; exact ⟨h.up,h.fl,h.cr⟩) (fun _=>h)
  · unfold renameM
    exact calm_ite (fun _=>h) (fun _=>calm_ite (fun _=>by simp only [stepM_calm h,if_true]; exact ⟨h.up,h.fl,h.cr⟩) (fun _=>h))
  · unfold removeM
    exact calm_ite (fun _=>by simp only [stepM_calm h,if_true]; exact ⟨h.up,h.fl,h.cr⟩) (fun _=>h)
  · unfold syncDirM
    exact calm_ite (fun _=>h) (fun _=>by simp only [stepM_calm h,if_true]; exact ⟨h.up,h.fl,h.cr⟩)
theorem Kp.save {F:Fs} {cur:Option ByteArray} {olds:List ByteArray} {keep:Nat} (h:Kp F cur olds keep) {t:ByteArray} (ht:t.size ≤ 1073741824) (h8:keep ≤ 8):(saveM F t (keep:Int)).2=0∧Kp (saveM F t (keep:Int)).1 (some t) (nextO cur olds keep) keep:=by
  obtain ⟨h1,_,h3 | h3⟩:=save_on h.gd (t:=t) h.kv ht h.cz h8
  · have hc:=calmClo.save (show Calm F from ⟨h.gd.on.up,h.fl,h.gd.on.cr⟩) t (keep:Int)
    have hw:=((h.wh.weak (M':=fun x=>x=orNo cur ∨ x=(t,true)) (fun x hx=>Or.inl hx)).save (t:=t) (keep:=(keep:Int)) (fun _=>Or.inr rfl)).2 h3.1
    exact ⟨h3.1,h1,hc.fl,h3.2,fun c e=>by injection e with e; rw [← e]; exact ht,hw⟩
  · exact absurd h3.2.1 (Nat.not_lt_zero _)
theorem past_view (F:Fs):pastM F F.dir=orNo (viewM F liveN):=by
  unfold pastM viewM liveI
  split <;> rfl
theorem Kp.last {F:Fs} {cur:Option ByteArray} {olds:List ByteArray} {keep:Nat} (h:Kp F cur olds keep) {t:ByteArray} (ht:t.size ≤ 1073741824) (h8:keep ≤ 8) {fail:Int} (hf:1 ≤ fail∧fail ≤ 1000):(failsM F fail 0).2=0∧∀ r,saveM (failsM F fail 0).1 t (keep:Int)=r → (r.2=0 → lookM (nowM r.1) liveN=(t,true))∧(r.2 ≠ 0 → r.2=200∧(∀ x ∈ nowM r.1,isTmp x.1=false)∧(lookM (nowM r.1) liveN=orNo cur ∨ lookM (nowM r.1) liveN=(t,true))):=by
  have e:failsM F fail 0=({ F with fails:=F.fails ++ [((F.steps:Int) + fail,0)] },0):=by
    unfold failsM
    rw [h.gd.on.up,if_neg (by decide),if_neg (by omega)]
  have ho:=h.gd.ok.fails fail 0
  have hw:=h.wh.fails fail 0
  rw [e] at ho hw ⊢
  refine ⟨rfl,fun r hr=>?_⟩
  have hg:Gd (F.steps + fail.toNat) { F with fails:=F.fails ++ [((F.steps:Int) + fail,0)] }:=by
    refine ⟨⟨h.gd.on.up,h.gd.on.cr,fun f hf2=>?_⟩,ho,h.gd.al⟩
    have hf3:f ∈ F.fails ++ [((F.steps:Int) + fail,0)]:=hf2
    rw [h.fl] at hf3
    have:f=((F.steps:Int) + fail,0):=by simpa using hf3
    rw [this]
    show (F.steps:Int) + fail=_
    omega
  have hkv:KV (viewM { F with fails:=F.fails ++ [((F.steps:Int) + fail,0)] }) cur olds keep:=h.kv
  obtain ⟨h1,_,h3⟩:=save_on hg (t:=t) hkv ht h.cz h8
  have hw2:=((hw.weak (M':=fun x=>x=orNo cur ∨ x=(t,true)) (fun x hx=>Or.inl hx)).save (t:=t) (keep:=(keep:Int)) (fun _=>Or.inr rfl)).1
  have hr1:saveM { F with fails:=F.fails ++ [((F.steps:Int) + fail,0)] } t (keep:Int)=r:=hr
  rw [hr1] at h1 h3 hw2
  have hlk:=look_now h1.ok liveN
  have hpast:=(hw2.w _ (Nat.le_refl _)).1
  rw [hw2.ok.now,past_view] at hpast
  rw [hlk]
  rcases h3 with ⟨e0,h3⟩ | ⟨e0,_,h4,h5⟩
  · refine ⟨fun _=>?_,fun hne=>absurd e0 hne⟩
    rw [h3.live]
    rfl
  · refine ⟨(fun h0=>by rw [e0] at h0; cases h0),fun _=>⟨e0,?_,hpast⟩⟩
    rw [now_fa]
    intro x hx
    obtain ⟨y,hy,rfl⟩:=List.mem_map.1 hx
    exact no_tmp h1 h4 h5 y hy
end Go.Proofs.YtbgbmfmgdgalbaaGreatDoor
namespace Go.Proofs.YtbgbmfmgdgalbaaGreatDoor
open Go.RowKit Go.Maps
set_option linter.unusedVariables false
set_option linter.unusedSimpArgs false
structure Bt (W:World) (g:Nat) (X:Gh) (F:Fs) (w':World) (X':Gh) (F':Fs):Prop where
  md:ModP (Own g F X) W w'
  own:∀ k,Own g F' X' k → Own g F X k ∨ W.heap.size ≤ k
theorem Bt.of {W w':World} {g:Nat} {X X':Gh} {F F':Fs} (h:Bec W g X F w' X' F'):Bt W g X F w' X' F':=⟨h.md,h.own⟩
theorem Bt.refl (W:World) (g:Nat) (X:Gh) (F:Fs):Bt W g X F W X F:=⟨ModP.refl _ _,fun _ h=>Or.inl h⟩
theorem Bt.trans {W w1 w2:World} {g:Nat} {X X1 X2:Gh} {F F1 F2:Fs} (h:Bt W g X F w1 X1 F1) (k:Bt w1 g X1 F1 w2 X2 F2):Bt W g X F w2 X2 F2:=by
  refine ⟨h.md.andThen k.md (fun j hj hs=>(h.own j hs).resolve_right (by omega)),fun q hq=>?_⟩
  rcases k.own q hq with a | a
  · exact h.own q a
  · exact Or.inr (Nat.le_trans h.md.size a)
theorem Bt.after {W w1 w2:World} {g:Nat} {X X1:Gh} {F F1:Fs} (h:Bt W g X F w1 X1 F1) (hb:Below w1.heap.size w1 w2):Bt W g X F w2 X1 F1:=⟨h.md.andThen (S':=fun _=>False) (ModP.below hb) (fun _ _ q=>q.elim),h.own⟩
theorem Bt.pre {W0 W w1:World} {g:Nat} {X X1:Gh} {F F1:Fs} (hb:Below W0.heap.size W0 W) (h:Bt W g X F w1 X1 F1):Bt W0 g X F w1 X1 F1:=
  ⟨(ModP.below (S:=fun _=>False) hb).weak (fun _ _ q=>q.elim) |>.trans (h.md.weak (fun _ _ q=>q)) |> fun m=>m,fun k hk=>(h.own k hk).imp id (fun q=>Nat.le_trans hb.size q)⟩
def CalP (w0 W:World) (g:Nat) (X:Gh) (F F':Fs) (i:Nat) (v:Value) (e:Ending) (w':World):Prop:=e=.returned v∧∃ X',St w0 w' g X' F' i∧Bt W g X F w' X' F'
def SaveC:Prop:=∀ (w0 W:World) (g:Nat) (X:Gh) (F:Fs) (i:Nat) (t:ByteArray) (keep:Int),St w0 W g X F i → Inv F i → i + 32830 ≤ 3298534883000 → t.size ≤ 140737488355328 → -9223372036854775808 ≤ keep∧keep ≤ 9223372036854775807 → Calls Tryz.prog 9 #[ptr (some g),.string t,.int .i64 keep] W (CalP w0 W g X F (saveM F t keep).1 (i + 32830) (.int .i64 (saveM F t keep).2))
def LoadC:Prop:=∀ (w0 W:World) (g:Nat) (X:Gh) (F:Fs) (i:Nat),St w0 W g X F i → Inv F i → i + 32830 ≤ 3298534883000 → Calls Tryz.prog 11 #[ptr (some g)] W (CalP w0 W g X F (loadM F).1 (i + 65) (.tuple #[.string (loadM F).2.1,.bool (loadM F).2.2.1,.int .i64 (loadM F).2.2.2]))
def TidyC:Prop:=∀ (w0 W:World) (g:Nat) (X:Gh) (F:Fs) (i:Nat),St w0 W g X F i → Inv F i → i + 32830 ≤ 3298534883000 → Calls Tryz.prog 33 #[ptr (some g)] W (CalP w0 W g X F (tidyM F).1 (i + 65) (.tuple #[.int .i64 (tidyM F).2.1,.int .i64 (tidyM F).2.2]))
def OlderP (W:World) (L:List ByteArray) (n:Nat) (r:Int) (e:Ending) (w':World):Prop:=∃ P c,e=.returned (.tuple #[.slice P n c,.int .i64 r])∧w'.ownsRow W.heap.size 9 1 (.slice P n c) n (psE.fl L)∧Below W.heap.size W w'
def OlderC:Prop:=∀ (w0 W:World) (g:Nat) (X:Gh) (F:Fs) (i:Nat),St w0 W g X F i → Inv F i → i + 32830 ≤ 3298534883000 → Calls Tryz.prog 10 #[ptr (some g)] W (OlderP W (olderM F).1 (olderM F).1.length (olderM F).2)
theorem save_no {F:Fs} {t:ByteArray} {keep:Int} (h:keep < 0 ∨ 8 < keep):saveM F t keep=(F,1):=by unfold saveM; rw [if_pos h]
set_option maxHeartbeats 4000000 in
set_option maxRecDepth 400000 in
theorem works24_any (hS:SaveC) (hL:LoadC) (hO:OlderC) (w:World):Calls Tryz.prog 8 #[] w fun e w'=>e=.returned (.bool true)∧Below w.heap.size w w':=by
  have HNW:Hid _:=NewW_any w
  have k0:=Kp.new 2
  have k1:=k0.save (t:=⟨#[65]⟩) (by decide) (by decide)
  have k2:=k1.2.save (t:=⟨#[66]⟩) (by decide) (by decide)
  have i1:Inv (saveM newM ⟨#[65]⟩ 2).1 32830:=(Inv.new.save ⟨#[65]⟩ 2).more (by omega)
  have i2:Inv (saveM (saveM newM ⟨#[65]⟩ 2).1 ⟨#[66]⟩ 2).1 65660:=(i1.save ⟨#[66]⟩ 2).more (by omega)
  obtain ⟨F1,e1,hs1⟩:∃ F1 e1,saveM newM ⟨#[65]⟩ 2=(F1,e1):=⟨_,_,rfl⟩
  have hs1':saveM newM ⟨#[65]⟩ ((2:Nat):Int)=(F1,e1):=hs1
  rw [hs1'] at k1 k2
  rw [hs1] at i1 i2
  obtain ⟨F2,e2,hs2⟩:∃ F2 e2,saveM F1 ⟨#[66]⟩ 2=(F2,e2):=⟨_,_,rfl⟩
  have hs2':saveM F1 ⟨#[66]⟩ ((2:Nat):Int)=(F2,e2):=hs2
  simp only at k1 k2 i1 i2
  rw [hs2'] at k2
  rw [hs2] at i2
  simp only at k2 i2
  obtain ⟨rfl,k1⟩:=k1
  obtain ⟨rfl,k2⟩:=k2
  have hl:=load_kv k2.gd k2.kv
  have hol:=older_kv k2.gd k2.kv (by decide)
  have HS1:Hid (∀ W g X,St w W g X newM 0 → Calls Tryz.prog 9 #[.pointer (some ⟨g,0,none⟩),.string { data:=#[65] },.int .i64 2] W (CalP w W g X newM F1 32830 (.int .i64 0))):=fun W g X h=>by
    have:=hS w W g X newM 0 ⟨#[65]⟩ 2 h Inv.new (by omega) (by decide) (by omega)
    rw [hs1] at this
    exact this
  have HS2:Hid (∀ W g X,St w W g X F1 32830 → Calls Tryz.prog 9 #[.pointer (some ⟨g,0,none⟩),.string { data:=#[66] },.int .i64 2] W (CalP w W g X F1 F2 65660 (.int .i64 0))):=fun W g X h=>by
    have:=hS w W g X F1 32830 ⟨#[66]⟩ 2 h i1 (by omega) (by decide) (by omega)
    rw [hs2] at this
    exact this
  have HL:Hid (∀ W g X,St w W g X F2 65660 → Calls Tryz.prog 11 #[.pointer (some ⟨g,0,none⟩)] W (CalP w W g X F2 F2 65725 (.tuple #[.string { data:=#[66] },.bool true,.int .i64 0]))):=fun W g X h=>by
    have:=hL w W g X F2 65660 h i2 (by omega)
    rw [hl] at this
    exact this
  have HO:Hid (∀ W g X,St w W g X F2 65725 → Calls Tryz.prog 10 #[.pointer (some ⟨g,0,none⟩)] W (OlderP W [⟨#[65]⟩] 1 0)):=fun W g X h=>by
    have:=hO w W g X F2 65725 h (i2.more (by omega)) (by omega)
    rw [hol] at this
    exact this
  have HS3:Hid (∀ W g X,St w W g X F2 65725 → Calls Tryz.prog 9 #[.pointer (some ⟨g,0,none⟩),.string { data:=#[67] },.int .i64 (-1)] W (CalP w W g X F2 F2 98555 (.int .i64 1))):=fun W g X h=>by
    have:=hS w W g X F2 65725 ⟨#[67]⟩ (-1) h (i2.more (by omega)) (by omega) (by decide) (by omega)
    rw [save_no (by omega)] at this
    exact this
  have HS4:Hid (∀ W g X,St w W g X F2 98555 → Calls Tryz.prog 9 #[.pointer (some ⟨g,0,none⟩),.string { data:=#[67] },.int .i64 9] W (CalP w W g X F2 F2 131385 (.int .i64 1))):=fun W g X h=>by
    have:=hS w W g X F2 98555 ⟨#[67]⟩ 9 h (i2.more (by omega)) (by omega) (by decide) (by omega)
    rw [save_no (by omega)] at this
    exact this
  clear hS hL hO k0 k1 k2 i1 i2 hs1 hs1' hs2 hs2' hl hol
  go_enter Tryz.func8,Tryz.ntmps8
  go_wp2_with fail
  refine (show Calls _ _ _ _ _ from HNW.out).mono ?_
  rintro e w1 ⟨g,X,rfl,hk⟩
  have H1:Hid (St w w1 g X newM 0):=St.new hk
  clear hk HNW
  have HQ:Hid _:=HS1.out w1 g X H1.out
  go_wp2_with fail
  refine (show Calls _ _ _ _ _ from HQ.out).mono ?_
  rintro e w2 ⟨rfl,X2,h2,_⟩
  have H2:Hid (St w w2 g X2 F1 32830):=h2
  clear h2 HQ H1 HS1
  have HQ:Hid _:=HS2.out w2 g X2 H2.out
  go_wp2_with fail
  refine (show Calls _ _ _ _ _ from HQ.out).mono ?_
  rintro e w3 ⟨rfl,X3,h3,_⟩
  have H3:Hid (St w w3 g X3 F2 65660):=h3
  clear h3 HQ H2 HS2
  have HQ:Hid _:=HL.out w3 g X3 H3.out
  go_wp2_with fail
  refine (show Calls _ _ _ _ _ from HQ.out).mono ?_
  rintro e w4 ⟨rfl,X4,h4,_⟩
  have H4:Hid (St w w4 g X4 F2 65725):=h4
  clear h4 HQ H3 HL
  have HQ:Hid _:=HO.out w4 g X4 H4.out
  go_wp2_with fail
  refine (show Calls _ _ _ _ _ from HQ.out).mono ?_
  rintro e w5 ⟨P,c,rfl,ho,hb⟩
  have H5:Hid (St w w5 g X4 F2 65725):=H4.out.on hb
  obtain ⟨r,o,c',he,hc⟩:=(KR.own (E:=psE) (v:=.slice P 1 c) (l:=[⟨#[65]⟩]) ho rfl).cell psOk (j:=0) (by decide)
  injection he with he q1 q2
  subst he
  have hc0:=hc 0 (.string ⟨#[65]⟩) rfl
  simp only [Nat.zero_mul,Nat.add_zero] at hc0
  clear hc ho hb HQ H4 HO q1 q2
  have HQ:Hid _:=HS3.out w5 g X4 H5.out
  go_wp2_with fail
  refine (show Calls _ _ _ _ _ from HQ.out).mono ?_
  rintro e w6 ⟨rfl,X6,h6,_⟩
  have H6:Hid (St w w6 g X6 F2 98555):=h6
  clear h6 HQ H5 HS3 hc0
  have HQ:Hid _:=HS4.out w6 g X6 H6.out
  go_wp2_with fail
  refine (show Calls _ _ _ _ _ from HQ.out).mono ?_
  rintro e w7 ⟨rfl,X7,h7,_⟩
  have H7:Hid (St w w7 g X7 F2 131385):=h7
  clear h7 HQ H6 HS4
  go_wp2
  go_returns
  exact ⟨rfl,H7.out.bel⟩
end Go.Proofs.YtbgbmfmgdgalbaaGreatDoor
