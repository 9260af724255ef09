import Derived.Test.YtbgbmfmgdgalbaaGreatDoorM12
import Derived.Test.YtbgbmfmgdgalbaaGreatDoorM09
import Derived.Test.YtbgbmfmgdgalbaaGreatDoorShC
namespace Go.Proofs.YtbgbmfmgdgalbaaGreatDoor
open Go.RowKit Go.Maps
set_option linter.unusedVariables false
set_option linter.unusedSimpArgs false
theorem ltQ_key {a b a' b':Pq} (h1:a.s=a'.s∧a.c=a'.c) (h2:b.s=b'.s∧b.c=b'.c):ltQ a b ↔ ltQ a' b':=by
  unfold ltQ; rw [h1.1,h1.2,h2.1,h2.2]
theorem ltQ_tri {a b:Pq} (h:¬ ltQ a b) (hn:¬ (a.s=b.s∧a.c=b.c)):ltQ b a:=by
  unfold ltQ at *
  rcases Nat.lt_trichotomy a.s b.s with h1 | h1 | h1
  · exact absurd (Or.inl h1) h
  · refine Or.inr ⟨h1.symm,?_⟩
    cases ha:a.c <;> cases hb:b.c
    · exact absurd ⟨h1,by rw [ha,hb]⟩ hn
    · exact ⟨rfl,rfl⟩
    · exact absurd (Or.inr ⟨h1,ha,hb⟩) h
    · exact absurd ⟨h1,by rw [ha,hb]⟩ hn
  · exact Or.inl h1
theorem ltQ_ne {a b:Pq} (h:ltQ a b):a.s ≠ b.s ∨ a.c ≠ b.c:=by
  unfold ltQ at h
  rcases h with h | ⟨_,h1,h2⟩
  · exact Or.inl (by omega)
  · exact Or.inr (by rw [h1,h2]; decide)
structure LayF (qs:List Pq) (p:Pq) (qs':List Pq):Prop where
  srt:qs'.Pairwise ltQ
  mem:p ∈ qs'
  old:∀ q ∈ qs,∃ q' ∈ qs',q'.s=q.s∧q'.c=q.c
  new:∀ q ∈ qs',q=p ∨ (q ∈ qs∧(q.s ≠ p.s ∨ q.c ≠ p.c))
  len:qs'.length ≤ qs.length + 1
theorem LayL.facts {qs:List Pq} {p:Pq} {qs':List Pq} (hs:qs.Pairwise ltQ) (h:LayL qs p qs'):LayF qs p qs':=by
  have hg:=List.pairwise_iff_getElem.1 hs
  obtain ⟨i,hpl,⟨hi,hk1,hk2,rfl⟩ | ⟨hno,rfl⟩⟩:=h
  · have hkey:∀ j (hj:j < (qs.set i p).length),((qs.set i p)[j]).s=(qs[j]'(by simpa using hj)).s∧((qs.set i p)[j]).c=(qs[j]'(by simpa using hj)).c:=fun j hj=>by
      rw [List.getElem_set]
      by_cases e:i=j
      · subst e; rw [if_pos rfl]; exact ⟨hk1.symm,hk2.symm⟩
      · rw [if_neg e]; exact ⟨rfl,rfl⟩
    refine ⟨List.pairwise_iff_getElem.2 (fun a b ha hb hab=>(ltQ_key (hkey a ha) (hkey b hb)).2 (hg a b _ _ hab)),List.mem_set hi p,fun q hq=>?_,fun q hq=>?_,by simp⟩
    · obtain ⟨j,hj,rfl⟩:=List.getElem_of_mem hq
      exact ⟨_,List.getElem_mem (l:=qs.set i p) (by simpa using hj),hkey j (by simpa using hj)⟩
    · obtain ⟨j,hj,rfl⟩:=List.getElem_of_mem hq
      rw [List.getElem_set]
      by_cases e:i=j
      · left; rw [if_pos e]
      · right
        rw [if_neg e]
        have hj':j < qs.length:=by simpa using hj
        refine ⟨List.getElem_mem hj',?_⟩
        rw [← hk1,← hk2]
        rcases Nat.lt_or_gt_of_ne e with h1 | h1
        · have:=ltQ_ne (hg i j hi hj' h1)
          exact this.imp (fun q e=>q e.symm) (fun q e=>q e.symm)
        · exact ltQ_ne (hg j i hj' hi h1)
  · have hlo:∀ q ∈ qs.take i,ltQ q p:=fun q hq=>by
      obtain ⟨j,hj,rfl⟩:=List.getElem_of_mem hq
      rw [List.length_take] at hj
      rw [List.getElem_take]
      exact hpl.lo j (by omega) (by omega)
    have hhi:∀ q ∈ qs.drop i,ltQ p q:=fun q hq=>by
      obtain ⟨j,hj,rfl⟩:=List.getElem_of_mem hq
      rw [List.length_drop] at hj
      rw [List.getElem_drop]
      have hi:i < qs.length:=by omega
      have h0:ltQ p qs[i]:=ltQ_tri (hpl.hi i hi (Nat.le_refl _)) (fun e=>hno ⟨hi,e⟩)
      rcases Nat.eq_zero_or_pos j with rfl | hj0
      · exact h0
      · exact ltQ_trans h0 (hg i (i + j) hi (by omega) (by omega))
    refine ⟨?_,by simp,fun q hq=>⟨q,?_,rfl,rfl⟩,fun q hq=>?_,by simp; omega⟩
    · rw [List.pairwise_append,List.pairwise_cons]
      refine ⟨hs.sublist (List.take_sublist _ _),⟨hhi,hs.sublist (List.drop_sublist _ _)⟩,fun a ha b hb=>?_⟩
      rcases List.mem_cons.1 hb with rfl | hb
      · exact hlo a ha
      · exact ltQ_trans (hlo a ha) (hhi b hb)
    · rw [← List.take_append_drop i qs] at hq
      rcases List.mem_append.1 hq with hq | hq
      · exact List.mem_append_left _ hq
      · exact List.mem_append_right _ (List.mem_cons_of_mem _ hq)
    · rcases List.mem_append.1 hq with hq | hq
      · exact Or.inr ⟨List.mem_of_mem_take hq,ltQ_ne (hlo q hq)⟩
      · rcases List.mem_cons.1 hq with rfl | hq
        · exact Or.inl rfl
        · exact Or.inr ⟨List.mem_of_mem_drop hq,(ltQ_ne (hhi q hq)).imp (fun q e=>q e.symm) (fun q e=>q e.symm)⟩
theorem failM_app (l:List (Int × Int)) (s n:Nat) (p:Int):failM (l ++ [((s:Int),p)]) n=if n=s then some p else failM l n:=by
  unfold failM
  rw [List.reverse_append,List.reverse_singleton,List.singleton_append,List.find?_cons]
  by_cases h:n=s
  · subst h; simp
  · rw [if_neg h]
    have:((s:Int) == (n:Int))=false:=by simp; omega
    simp only [this]
theorem Plans.fail {F:Fs} {qs qs':List Pq} {p:Pq} {part:Int} (h:Plans F qs) (hl:LayF qs p qs') (hc:p.c=false) (hs:F.steps < p.s):Plans { F with fails:=F.fails ++ [((p.s:Int),part)] } qs':=by
  refine ⟨hl.srt,fun q hq=>?_,fun n r hn hf=>?_,fun n hn hf=>?_⟩
  · rcases hl.new q hq with rfl | ⟨hq,_⟩
    · exact hs
    · exact h.ahead q hq
  · have hf':failM (F.fails ++ [((p.s:Int),part)]) n=some r:=hf
    rw [failM_app] at hf'
    by_cases e:n=p.s
    · exact ⟨p,hl.mem,hc,e.symm⟩
    · rw [if_neg e] at hf'
      obtain ⟨q,hq,h1,h2⟩:=h.all n r hn hf'
      obtain ⟨q',hq',e1,e2⟩:=hl.old q hq
      exact ⟨q',hq',e2.trans h1,e1.trans h2⟩
  · obtain ⟨q,hq,h1,h2⟩:=h.cr n hn hf
    obtain ⟨q',hq',e1,e2⟩:=hl.old q hq
    exact ⟨q',hq',e2.trans h1,e1.trans h2⟩
theorem Holds.fail {W:World} {F:Fs} {q p:Pq} {part:Int} (h:Holds W F q) (hc:p.c=false) (hn:q.s ≠ p.s ∨ q.c ≠ p.c):Holds W { F with fails:=F.fails ++ [((p.s:Int),part)] } q:=by
  refine ⟨h.cr,fun hq=>?_⟩
  obtain ⟨r,h1,h2⟩:=h.fl hq
  refine ⟨r,h1,?_⟩
  show failM (F.fails ++ [((p.s:Int),part)]) q.s=some r
  rw [failM_app,if_neg (by rcases hn with h | h; exact h; exact absurd (hq.trans hc.symm) h)]
  exact h2
end Go.Proofs.YtbgbmfmgdgalbaaGreatDoor
namespace Go.Proofs.YtbgbmfmgdgalbaaGreatDoor
open Go.RowKit Go.Maps
set_option linter.unusedVariables false
set_option linter.unusedSimpArgs false
def chkP (F:Fs) (n least:Int):Int:=if F.down then 203 else if n < least ∨ 1099511627776 < n then 1 else 0
set_option maxHeartbeats 1000000 in
theorem checkPlan_any (g:Nat) (X:Gh) (F:Fs) (n least:Int) (w:World) (h:FsC w g X F):Calls Tryz.prog 37 #[ptr (some g),.int .i64 n,.int .i64 least] w fun e w'=>e=.returned (.int .i64 (chkP F n least))∧w'=w:=by
  obtain ⟨c0,_⟩:=h.cells
  clear h
  unfold ptr chkP
  obtain ⟨dn,hdn⟩:∃ dn,F.down=dn:=⟨_,rfl⟩
  rw [hdn] at c0 ⊢
  clear hdn
  cases dn with
  | true =>
    go_enter Tryz.func37,Tryz.ntmps37
    go_wp2
    go_ret
    exact ⟨rfl,rfl⟩
  | false =>
    by_cases h1:n < least
    · rw [if_pos (Or.inl h1)]
      go_enter Tryz.func37,Tryz.ntmps37
      go_wp2
      go_ret
      exact ⟨rfl,rfl⟩
    · by_cases h2:1099511627776 < n
      · rw [if_pos (Or.inr h2)]
        go_enter Tryz.func37,Tryz.ntmps37
        go_wp2
        go_ret
        exact ⟨rfl,rfl⟩
      · rw [if_neg (show ¬ (n < least ∨ 1099511627776 < n) by omega)]
        go_enter Tryz.func37,Tryz.ntmps37
        go_wp2
        go_ret
        exact ⟨rfl,rfl⟩
set_option maxHeartbeats 1000000 in
theorem Read_any (g:Nat) (X:Gh) (F:Fs) (n:ByteArray) (hn:n.size ≤ 140737488355328) (w:World) (h:FsP w g X F) :
    Calls Tryz.prog 68 #[ptr (some g),.string n] w fun e w'=>e=.returned (.tuple #[.string (readM F n).1,.int .i64 (readM F n).2])∧Below w.heap.size w w':=by
  have HFI:Hid _:=find0_any g X F n hn w h
  by_cases h0:hasM F n=0
  · obtain ⟨hd,hnm,hf⟩:=has_zero.1 h0
    obtain ⟨i,hi1,hi2,hi3,hl⟩:=h.named hf
    have hy:=fnd_yes (X:=X) (os:=[]) hd (by simpa using hnm) hf
    rw [hy,h0,hi2] at HFI
    have hM:readM F n=((F.files.getD i ⟨⟨#[]⟩,0⟩).d,0):=by
      unfold readM; rw [if_pos h0,hi2]
    rw [hM]
    have HF:Hid (∀ W,Below w.heap.size w W → FileAt W (X.fb i) i (F.files.getD i ⟨⟨#[]⟩,0⟩) (X.pv i) (X.ps i)):=fun W hb=>((h.on hb).file hl)
    generalize F.files.getD i ⟨⟨#[]⟩,0⟩=x at *
    generalize X.fb i=bb at *
    clear h hd hnm hf hi1 hi2 hi3 hl hy h0
    unfold ptr at HFI ⊢
    go_enter Tryz.func68,Tryz.ntmps68
    go_wp2_with fail
    refine (show Calls _ _ _ _ _ from HFI.out).mono ?_
    rintro e w1 ⟨rfl,hb1⟩
    have hf:=HF.out w1 hb1
    obtain ⟨d0,d1,d2,d3,df⟩:=file_cells hf.blk
    have HC:Hid _:=hf.first x.d.size (Nat.le_refl _)
    have HE:Hid (x.d.extract 0 x.d.size=x.d):=ext_all _
    have HB1:Hid (Below w.heap.size w w1):=hb1
    generalize x.d.size=sz at *
    unfold ptr at HC
    clear hb1 hf df
    go_wp2_with fail
    refine (show Calls _ _ _ _ _ from HC.out).mono ?_
    rintro e w2 ⟨rfl,hb⟩
    have HB2:Hid (Below w1.heap.size w1 w2):=hb
    rw [HE.out]
    clear hb
    go_wp2
    go_returns
    exact ⟨rfl,HB1.out.trans (HB2.out.mono HB1.out.size)⟩
  · have hno:=fnd_no (F:=F) (X:=X) (n:=n) (os:=[]) (fun hh=>h0 (has_zero.2 ⟨hh.1,by simpa using hh.2.1,hh.2.2⟩))
    rw [hno.1] at HFI
    have hM:readM F n=(⟨#[]⟩,hasM F n):=by unfold readM; rw [if_neg h0]
    rw [hM]
    obtain ⟨er,her⟩:∃ er,hasM F n=er:=⟨_,rfl⟩
    rw [her] at HFI h0 ⊢
    have hne:(er == 0)=false:=by simpa using h0
    clear h hno hM her
    unfold ptr at HFI ⊢
    go_enter Tryz.func68,Tryz.ntmps68
    go_wp2_with fail
    refine (show Calls _ _ _ _ _ from HFI.out).mono ?_
    rintro e w1 ⟨rfl,hb1⟩
    have HB1:Hid (Below w.heap.size w w1):=hb1
    clear hb1
    go_wp2
    go_returns
    exact ⟨rfl,HB1.out⟩
end Go.Proofs.YtbgbmfmgdgalbaaGreatDoor
namespace Go.Proofs.YtbgbmfmgdgalbaaGreatDoor
open Go.RowKit Go.Maps
set_option linter.unusedVariables false
set_option linter.unusedSimpArgs false
theorem row_ty {W:World} {k:Nat} {cs cs':Array Value} {t t':Nat} {fz fz':Nat × Nat} (h:W.heap[k]?=some (.cells cs t fz)) (h':W.heap[k]?=some (.cells cs' t' fz')):t=t':=by
  have:=h.symm.trans h'
  injection this with this
  injection this
theorem FsP.fail_laid {w W0 w':World} {g R:Nat} {X:Gh} {F:Fs} {p:Pq} {part:Int} {e:Ending} (h:FsP w g X F) (hb:Below w.heap.size w W0) (hR:W0.heap[R]?=some (.cells #[.int .i64 part] 3)) (hc:p.c=false) (hpb:p.b=R) (hwR:w.heap.size ≤ R) (hs:F.steps < p.s)
    (hL:LayP W0 g (.bool F.down) (.int .i64 (F.steps:Int)) (.int .i64 (F.files.length:Int)) (.map (some X.mn)) (.map (some X.ms)) X.cv X.qv X.qs p e w'):e=.returned (.tuple #[])∧∃ X',Bec w g X F w' X' { F with fails:=F.fails ++ [((p.s:Int),part)] }:=by
  obtain ⟨he,qv',qs',hl,hg',hrow',hk',hm'⟩:=hL
  have h0:=h.on hb
  have hf:=hl.facts h.pln.srt
  have hkeep:∀ {k:Nat} {cs:Array Value} {t:Nat} {fz:Nat × Nat},W0.heap[k]?=some (.cells cs t fz) → ¬ tyOwn t → w'.heap[k]?=W0.heap[k]?:=fun {k cs t fz} hk ht=>hm'.oth k (row_lt hk) (fun hs=>by
    rcases hs with rfl | hs
    · exact ht (by rw [row_ty hk h0.blk]; exact Or.inl rfl)
    · obtain ⟨cur,hc⟩:=h0.row.type hs
      exact ht (by rw [row_ty hk hc]; exact Or.inr (Or.inr (Or.inr (Or.inr rfl)))))
  have hC:=h0.toFsC.repl (F':={ F with fails:=F.fails ++ [((p.s:Int),part)] }) hm' ⟨rfl,rfl,rfl,rfl⟩ hg' hrow'
  have hP:FsP w' g { X with qv:=qv',qs:=qs' } { F with fails:=F.fails ++ [((p.s:Int),part)] }:=by
    refine ⟨hC,h.pln.fail hf hc hs,fun q hq=>?_⟩
    rcases hf.new q hq with rfl | ⟨hq',hn⟩
    · refine ⟨fun h=>(by rw [hc] at h; cases h),fun _=>⟨part,?_,?_⟩⟩
      · rw [hpb]; exact (hkeep hR (by unfold tyOwn; decide)).trans hR
      · show failM (F.fails ++ [((q.s:Int),part)]) q.s=some part
        rw [failM_app,if_pos rfl]
    · exact ((h0.hld q hq').fail hc hn).to (fun k cs t fz hk ht=>hkeep hk ht)
  exact ⟨he,_,Bec.repl h.toFsC ((ModP.below hb).trans hm') ⟨rfl,rfl,rfl,rfl⟩ hP (fun k hk=>(hk' k hk).imp id (fun q=>Nat.le_trans hb.size q)) hf.len (fun q hq=>(hf.new q hq).symm.imp (fun h6=>h6.1) (fun h6=>by subst h6; exact ⟨by rw [hpb]; exact hwR,fun h7=>by rw [hc] at h7; cases h7⟩))⟩
set_option maxHeartbeats 2000000 in
set_option maxRecDepth 100000 in
theorem Fail_any (g:Nat) (X:Gh) (F:Fs) (n part:Int) (w:World) (h:FsP w g X F) (hs:Sm F X) :
    Calls Tryz.prog 15 #[ptr (some g),.int .i64 n,.int .i64 part] w fun e w'=>e=.returned (.int .i64 (failsM F n part).2)∧∃ X',Bec w g X F w' X' (failsM F n part).1:=by
  obtain ⟨W0,hW0⟩:∃ W0,w.alloc (.cells #[.int .i64 part] 3)=W0:=⟨_,rfl⟩
  obtain ⟨R,hR⟩:∃ R,w.heap.size=R:=⟨_,rfl⟩
  have hb0:Below w.heap.size w W0:=by rw [← hW0]; exact (Below.refl _ _).alloc (Nat.le_refl _) _
  have hr0:W0.heap[R]?=some (.cells #[.int .i64 part] 3):=by rw [← hW0,← hR]; exact one_alloc _ _
  have h0:=h.on hb0
  have HCK:Hid _:=checkPlan_any g X F n 1 W0 h0.toFsC
  by_cases hck:chkP F n 1=0
  · have hdn:F.down=false:=by
      unfold chkP at hck
      cases hd:F.down
      · rfl
      · rw [hd] at hck; simp at hck
    have hnn:¬ (n < 1 ∨ 1099511627776 < n):=fun hh=>by
      unfold chkP at hck
      rw [hdn,if_neg (by decide),if_pos hh] at hck; cases hck
    have hst:=hs.st
    obtain ⟨s,hsn⟩:∃ s:Nat,(s:Int)=(F.steps:Int) + n:=⟨F.steps + n.toNat,by omega⟩
    have hM:failsM F n part=({ F with fails:=F.fails ++ [((s:Int),part)] },0):=by
      unfold failsM; rw [hdn,if_neg (by decide),if_neg hnn,hsn]
    have hw:IntKind.i64.wrap ((F.steps:Int) + n)=(s:Int):=by rw [IntKind.wrap_i64] <;> omega
    have HLY:Hid (Calls Tryz.prog 38 #[ptr (some g),agQ ⟨s,false,R⟩] W0 fun e w'=>e=.returned (.tuple #[])∧∃ X',Bec w g X F w' X' { F with fails:=F.fails ++ [((s:Int),part)] }):=(layP_any g _ _ _ _ _ _ X.qv X.qs h.pln.srt hs.qs ⟨s,false,R⟩ W0 h0.blk h0.row).mono (fun e w' hL=>h.fail_laid (p:=⟨s,false,R⟩) hb0 hr0 rfl rfl (by rw [← hR]; exact Nat.le_refl _) (show F.steps < s by omega) hL)
    obtain ⟨_,c1,_⟩:=h0.cells
    rw [hck] at HCK
    rw [hM]
    unfold ptr agQ meetV at HLY
    simp only [Bool.false_eq_true,if_false,Option.map] at HLY
    clear h h0 hs hck hdn hnn hst hsn hM hr0 hb0
    unfold ptr at HCK ⊢
    go_enter Tryz.func15,Tryz.ntmps15
    go_upto_region 1 with fail
    clear hW0
    go_wp2_with fail
    refine (show Calls _ _ _ _ _ from HCK.out).mono ?_
    rintro e w1 ⟨rfl,rfl⟩
    go_wp2_with fail
    refine (show Calls _ _ _ _ _ from HLY.out).mono ?_
    rintro e w2 ⟨rfl,hB⟩
    have HB:Hid _:=hB
    clear hB
    go_wp2
    go_returns
    exact ⟨rfl,HB.out⟩
  · have hM:failsM F n part=(F,chkP F n 1):=by
      unfold failsM chkP at *
      cases hd:F.down
      · rw [hd] at hck
        simp only [Bool.false_eq_true,if_false] at hck ⊢
        by_cases hh:n < 1 ∨ 1099511627776 < n
        · rw [if_pos hh,if_pos hh]
        · rw [if_neg hh] at hck; exact absurd rfl hck
      · rfl
    rw [hM]
    have HB:Hid (∃ X',Bec w g X F W0 X' F):=⟨X,(Bec.refl h0).pre hb0⟩
    obtain ⟨er,her⟩:∃ er,chkP F n 1=er:=⟨_,rfl⟩
    rw [her] at HCK hck ⊢
    have hne:(er == 0)=false:=by simpa using hck
    clear h h0 hs hM her hr0 hb0
    unfold ptr at HCK ⊢
    go_enter Tryz.func15,Tryz.ntmps15
    go_upto_region 1 with fail
    clear hW0
    go_wp2_with fail
    refine (show Calls _ _ _ _ _ from HCK.out).mono ?_
    rintro e w1 ⟨rfl,rfl⟩
    go_wp2
    go_returns
    exact ⟨rfl,HB.out⟩
end Go.Proofs.YtbgbmfmgdgalbaaGreatDoor
namespace Go.Proofs.YtbgbmfmgdgalbaaGreatDoor
open Go.RowKit Go.Maps
set_option linter.unusedVariables false
set_option linter.unusedSimpArgs false
set_option maxHeartbeats 2000000 in
set_option maxRecDepth 100000 in
theorem mclone_any (b k:Nat) (f:ByteArray → Option Nat) (w:World) (h:MapIs w b k f):Calls Tryz.prog 87 #[.map (some b)] w fun e w'=>e=.returned (.map (some w.heap.size))∧MapIs w' w.heap.size k f∧Below w.heap.size w w':=by
  obtain ⟨D,⟨es,clock,hb,hF⟩,hm⟩:=h
  have hq:=fun w=>run_eql_map_nil_sl (P:=Tryz.prog) w 70 _ _ (some b) Tryz.underlying70
  have HFIN:Hid (MapIs (w.alloc (.map es clock)) w.heap.size k f):=⟨D,⟨es,clock,one_alloc _ _,hF⟩,hm⟩
  clear hF hm
  go_enter Tryz.func87,Tryz.ntmps87
  go_wp2
  rw [run_callFunc_extern Tryz.func130 (by kernel_rfl) (by kernel_rfl) (by kernel_rfl) (e:=Extern.MapsClone.clone) (by kernel_rfl),run_maps_clone_sl w 70 hb]
  simp only [Result.andThen]
  rw [Oper.upon_value]
  go_wp2
  rw [run_typeAssert_map_sl _ 70 20 _ _ _ Tryz.underlying70]
  simp only [Result.andThen]
  rw [Oper.upon_value]
  go_wp2
  go_ret
  exact ⟨rfl,HFIN.out,(Below.refl _ _).alloc (Nat.le_refl _) _⟩
end Go.Proofs.YtbgbmfmgdgalbaaGreatDoor
