import Derived.Test.YtbgbmfmgdgalbaaGreatDoorM10
namespace Go.Proofs.YtbgbmfmgdgalbaaGreatDoor
open Go.RowKit Go.Maps
set_option linter.unusedVariables false
set_option linter.unusedSimpArgs false
theorem fl_sing (p:Pq):plnE.fl [p]=plnE.enc p:=by rw [fl_cons]; rfl
theorem PX.prow' {W:World} {E o c n:Nat} {l:List Pq} (h:PX W E o c l) (hn:n=l.length):PRow W (.slice (some ⟨E,o * 3,none⟩) n c) l:=by subst hn; exact h.prow
theorem ins_len (l:List Pq) (p:Pq) (i:Nat) (hi:i ≤ l.length):(l.take i ++ p :: l.drop i).length=l.length + 1:=by simp; omega
theorem ins_all (l:List Pq) (p:Pq):l.take l.length ++ p :: l.drop l.length=l ++ [p]:=by simp
theorem encAt {w:World} {X:Nat} {p:Pq} (hX:w.heap[X]?=some (.cells #[.int .i64 (p.s:Int),.bool p.c,meetV p] 91)):∀ j u,(plnE.enc p)[j]?=some u → w.cell? ((⟨X,0,none⟩:Addr).add j)=some u:=fun j u hj=>by
  rw [Addr.add_lit,cell_of_row _ _ _ _ _ _ hX,Nat.zero_add]
  rw [← hj,← Array.getElem?_toList]; rfl
theorem enc_one (p:Pq):∀ u ∈ plnE.enc p,u.oneCell'=true:=plnOk.one p
set_option maxHeartbeats 4000000 in
set_option maxRecDepth 100000 in
theorem insE_nil (X vc:Nat) (p:Pq) (w:World) (hX:w.heap[X]?=some (.cells #[.int .i64 (p.s:Int),.bool p.c,meetV p] 91)) :
    Calls Tryz.prog 81 #[.slice none 0 0,.int .i64 0,.slice (some ⟨X,0,none⟩) 1 vc] w fun r w'=>InsP w (.slice none 0 0) [p] r w':=by
  obtain ⟨i0,hi0,hz0,hz1,hz2⟩:=info_parts infoP
  have HN:Hid _:=encAt hX
  have h1c:=enc_one p
  have hel:(plnE.enc p).length=1 * 3:=rfl
  have HFL:Hid (plnE.enc p=plnE.fl [p]):=(fl_sing p).symm
  clear hX
  generalize plnE.enc p=vs at *
  go_enter Tryz.func81,Tryz.ntmps81
  go_upto_region 7 with fail
  go_wp2_with (at_builtin; go_must (refine wpList_append_grows _ rfl _ _ 72 rfl 91 i0 (.agg #[.int .i64 0,.bool false,.nilFunc]) 3 24 Tryz.underlying72 hi0 hz0 hz1 hz2 rfl (by decide) none 0 0 [] rfl (fun _=>⟨rfl,rfl⟩) rfl (fun b h=>by cases h) ⟨X,0,none⟩ 1 vc vs rfl hel HN.out h1c (by omega) (by unfold maxLen; omega) (by omega) ?_))
  intro v' w1 hown hgr
  rw [HFL.out] at hown
  have HR:Hid (InsP w (.slice none 0 0) [p] (.returned v') w1):=⟨v',rfl,own_prow hown rfl,ModP.grownV (v:=.slice none 0 0) hgr,fun k hk=>Or.inr (by
    obtain ⟨_,⟨h1,h2⟩ | ⟨g,cap,cur,rfl,hb,_⟩⟩:=hown
    · rw [h1] at hk; cases hk
    · cases hk; exact hb)⟩
  clear hown hgr
  go_wp2
  go_returns
  exact HR.out
set_option maxHeartbeats 4000000 in
set_option maxRecDepth 100000 in
theorem insE_fit (X vc:Nat) (p:Pq) (E o c:Nat) (l:List Pq) (w:World) (hB:PX w E o c l) (hl:l.length ≤ 3298534883328) (hroom:l.length + 1 ≤ c) (hX:w.heap[X]?=some (.cells #[.int .i64 (p.s:Int),.bool p.c,meetV p] 91)) :
    Calls Tryz.prog 81 #[.slice (some ⟨E,o * 3,none⟩) l.length c,.int .i64 (l.length:Int),.slice (some ⟨X,0,none⟩) 1 vc] w fun r w'=>InsP w (.slice (some ⟨E,o * 3,none⟩) l.length c) (l ++ [p]) r w':=by
  obtain ⟨i0,hi0,hz0,hz1,hz2⟩:=info_parts infoP
  obtain ⟨cur,h1,h2,h3⟩:=hB.row
  have hmx:=hB.max
  have hel:(plnE.enc p).length=3:=rfl
  have HRUN:Hid (∀ ty,(Builtin.append_ #[72,72] ty #[.slice (some ⟨E,o * 3,none⟩) l.length c,.slice (some ⟨X,0,none⟩) 1 vc]).run Tryz.prog w=.ok (.slice (some ⟨E,o * 3,none⟩) (l.length + 1) c) (w.setCells E (o * 3 + l.length * 3) (plnE.enc p))):=fun ty=>by
    have:=run_append_room_cells (P:=Tryz.prog) w 72 ty 91 i0 Tryz.underlying72 hi0 E (o * 3) l.length c ⟨X,0,none⟩ 1 vc (plnE.enc p) (by rw [hz1]; rfl) (encAt hX) (enc_one p) hroom (fun j hj=>by rw [hz1,cell_of_row _ _ _ _ _ _ h1,Array.getElem?_eq_getElem (by rw [hel] at hj; omega)]; rfl) (fun j hj=>frozen_of_row _ _ _ _ _ h1)
    rw [hz1] at this; exact this
  have HR:Hid (InsP w (.slice (some ⟨E,o * 3,none⟩) l.length c) (l ++ [p]) (.returned (.slice (some ⟨E,o * 3,none⟩) (l.length + 1) c)) (w.setCells E (o * 3 + l.length * 3) (plnE.enc p))):=by
    have hh:=heap_cells E _ (plnE.enc p) (o * 3 + l.length * 3) w cur h1 (by rw [hel]; omega)
    have hP:=PX.ins (p:=p) (Nat.le_refl l.length) hroom hmx h2 h3 (W:=w.setCells E (o * 3 + l.length * 3) (plnE.enc p)) (E:=E) (by rw [List.drop_length,show plnE.fl []=[] from rfl,spl_nil]; exact hh)
    rw [ins_all] at hP
    exact ⟨_,rfl,hP.prow' (by simp),ModP.only (grown_only E _ _ w) rfl,fun k hk=>Or.inl hk⟩
  have hn1:¬ ((1:Int)=0):=by omega
  obtain ⟨n,hn⟩:∃ n,l.length=n:=⟨_,rfl⟩
  rw [hn] at HRUN HR hl hroom ⊢
  generalize plnE.enc p=vs at *
  clear h1 h2 h3 hB hX hi0 hz0 hz1 hz2 hel hn
  go_enter Tryz.func81,Tryz.ntmps81
  go_upto_region 7 with fail
  all_goals
    go_wp2_with (at_builtin; go_must (refine Lib.wpList_append_run _ rfl _ _ 72 72 rfl (.slice (some ⟨E,o * 3,none⟩) n c) (.slice (some ⟨X,0,none⟩) 1 vc) ?a1 ?a2 _ _ (HRUN.out _) ?_))
    case a1=>rfl
    case a2=>rfl
    go_wp2
    go_returns
    exact HR.out
set_option maxHeartbeats 4000000 in
set_option maxRecDepth 100000 in
theorem insE_grow (X vc:Nat) (p:Pq) (E o c:Nat) (l:List Pq) (w:World) (hB:PX w E o c l) (hl:l.length ≤ 3298534883328) (hroom:c < l.length + 1) (hX:w.heap[X]?=some (.cells #[.int .i64 (p.s:Int),.bool p.c,meetV p] 91)) :
    Calls Tryz.prog 81 #[.slice (some ⟨E,o * 3,none⟩) l.length c,.int .i64 (l.length:Int),.slice (some ⟨X,0,none⟩) 1 vc] w fun r w'=>InsP w (.slice (some ⟨E,o * 3,none⟩) l.length c) (l ++ [p]) r w':=by
  obtain ⟨i0,hi0,hz0,hz1,hz2⟩:=info_parts infoP
  have hmx:=hB.max
  have hle:=hB.le
  have HN:Hid _:=encAt hX
  have h1c:=enc_one p
  have hel:(plnE.enc p).length=1 * 3:=rfl
  have HFL:Hid (plnE.fl l ++ plnE.enc p=plnE.fl (l ++ [p])):=by show _=_; rw [flq_app,fl_sing]
  have HOL:Hid (∀ b,some (⟨E,o * 3,none⟩:Addr)=some b → ∀ j u,(plnE.fl l)[j]?=some u → w.cell? (b.add j)=some u):=fun b hb j u hj=>by
    cases hb
    have:=hB.takeAt l.length (Nat.le_refl _) j u (by rw [List.take_length]; exact hj)
    exact this
  have hfi:(plnE.fl l).length=l.length * 3:=flq_len l
  have HLN:Hid ((l ++ [p]).length=l.length + 1):=by show _=_; simp
  obtain ⟨n,hn⟩:∃ n,l.length=n:=⟨_,rfl⟩
  rw [hn] at hfi hl hroom HLN hle ⊢
  generalize plnE.enc p=vs at *
  generalize plnE.fl l=xs at *
  clear hX hB hn
  go_enter Tryz.func81,Tryz.ntmps81
  go_upto_region 7 with fail
  all_goals
    go_wp2_with (at_builtin; go_must (refine wpList_append_grows _ rfl _ _ 72 rfl 91 i0 (.agg #[.int .i64 0,.bool false,.nilFunc]) 3 24 Tryz.underlying72 hi0 hz0 hz1 hz2 rfl (by decide) (some ⟨E,o * 3,none⟩) n c xs rfl (fun h=>by cases h) hfi HOL.out ⟨X,0,none⟩ 1 vc vs rfl hel HN.out h1c (by omega) (by unfold maxLen; omega) (by omega) ?_))
    intro v' w1 hown hgr
    rw [HFL.out] at hown
    have HR:Hid (InsP w (.slice (some ⟨E,o * 3,none⟩) n c) (l ++ [p]) (.returned v') w1):=⟨v',rfl,own_prow hown HLN.out.symm,ModP.grownV (v:=.slice (some ⟨E,o * 3,none⟩) n c) (grown_wide hgr),fun k hk=>Or.inr (by
      obtain ⟨_,⟨h1,h2⟩ | ⟨g,cap,cur,rfl,hb,_⟩⟩:=hown
      · rw [h1] at hk; cases hk
      · cases hk; exact hb)⟩
    clear hown hgr
    go_wp2
    go_returns
    exact HR.out
end Go.Proofs.YtbgbmfmgdgalbaaGreatDoor
namespace Go.Proofs.YtbgbmfmgdgalbaaGreatDoor
open Go.RowKit Go.Maps
set_option linter.unusedVariables false
set_option linter.unusedSimpArgs false
set_option maxHeartbeats 4000000 in
set_option maxRecDepth 100000 in
theorem ins_shift (X i vc:Nat) (p:Pq) (E o c:Nat) (l:List Pq) (hl:l.length ≤ 3298534883328) (w:World) (hB:PX w E o c l) (hi:i < l.length) (hX:w.heap[X]?=some (.cells #[.int .i64 (p.s:Int),.bool p.c,meetV p] 91)) (hXE:X ≠ E) (hroom:l.length + 1 ≤ c) :
    Calls Tryz.prog 81 #[.slice (some ⟨E,o * 3,none⟩) l.length c,.int .i64 (i:Int),.slice (some ⟨X,0,none⟩) 1 vc] w fun r w'=>InsP w (.slice (some ⟨E,o * 3,none⟩) l.length c) (l.take i ++ p :: l.drop i) r w':=by
  have hle:=hB.le
  have hcm:=hB.max
  obtain ⟨cur,h1,h2,h3⟩:=hB.row
  obtain ⟨q,hq⟩:∃ q,i + 1=q:=⟨_,rfl⟩
  obtain ⟨u,hu⟩:∃ u,l.length - i=u:=⟨_,rfl⟩
  obtain ⟨t,ht⟩:∃ t,l.length + 1=t:=⟨_,rfl⟩
  have hce:cur.size ≠ 0:=by omega
  have hov:∀ la ca lb cb,(callFunc 122 #[.slice (some ⟨X,0,none⟩) la ca,.slice (some ⟨E,o * 3 + q * 3,none⟩) lb cb]).run Tryz.prog w=.ok (.value (.bool false)) w:=fun la ca lb cb=>overlapsP w X E la ca lb cb 0 (o * 3 + q * 3) hXE _ cur hX h1 hce
  have h1d:w.drew.heap[E]?=some (.cells cur 91):=h1
  have hfl:(plnE.fl (l.drop i)).length=u * 3:=by rw [flq_len,List.length_drop,hu]
  have hel:(plnE.enc p).length=3:=rfl
  obtain ⟨k,hk⟩:∃ k,t - i=k:=⟨_,rfl⟩
  have r1:=heap_cells E _ (plnE.fl (l.drop i)) (o * 3 + q * 3) w.drew cur h1d (by rw [hfl]; omega)
  have s1:=spl_size cur (o * 3 + q * 3) (plnE.fl (l.drop i)) (by rw [hfl]; omega)
  have HRES:Hid (InsP w (.slice (some ⟨E,o * 3,none⟩) l.length c) (l.take i ++ p :: l.drop i) (.returned (.slice (some ⟨E,o * 3,none⟩) t c)) ((w.drew.setCells E (o * 3 + q * 3) (plnE.fl (l.drop i))).setCells E (o * 3 + i * 3) (plnE.enc p))):=by
    have r2:=heap_cells E _ (plnE.enc p) (o * 3 + i * 3) _ _ r1 (by rw [s1,hel]; omega)
    have hP:=PX.ins (p:=p) (i:=i) (by omega) hroom hcm h2 h3 (E:=E) (W:=(w.drew.setCells E (o * 3 + q * 3) (plnE.fl (l.drop i))).setCells E (o * 3 + i * 3) (plnE.enc p)) (by rw [hq]; exact r2)
    refine ⟨_,rfl,hP.prow' (by rw [ins_len l p i (by omega)]; omega),?_,fun k hk=>Or.inl hk⟩
    have m1:ModP (fun k=>(Value.slice (some ⟨E,o * 3,none⟩) l.length c).ownBlock=some k) w w.drew:=⟨rfl,rfl,rfl,Nat.le_refl _,fun _ _ _=>rfl⟩
    exact (m1.trans (ModP.only (grown_only E _ _ w.drew) rfl)).trans (ModP.only (grown_only E _ _ _) rfl)
  have hcp1:∀ ty dc sc,(Builtin.copy_ #[72,72] ty #[.slice (some ⟨E,o * 3 + q * 3,none⟩) u dc,.slice (some ⟨E,o * 3 + i * 3,none⟩) k sc]).run Tryz.prog w.drew=.ok (goInt (Nat.min k u)) (w.drew.setCells E (o * 3 + q * 3) (plnE.fl (l.drop i))):=fun ty dc sc =>
    run_copyP w.drew ty E (o * 3 + q * 3) u dc ⟨E,o * 3 + i * 3,none⟩ k sc (plnE.fl (l.drop i)) (by rw [hfl]; simp only [Nat.min_def]; split <;> omega) (fun k v hk=>(hB.dropAt i (by omega)) k v hk)
      (fun k hk=>by rw [cell_of_row _ _ _ _ _ _ h1d,Array.getElem?_eq_getElem (by omega)]; rfl) (fun k hk=>frozen_of_row _ _ _ _ _ h1d) (flq_one _)
  obtain ⟨W1,hW1⟩:∃ W1,W1=w.drew.setCells E (o * 3 + q * 3) (plnE.fl (l.drop i)):=⟨_,rfl⟩
  rw [← hW1] at r1 hcp1 HRES
  have hXW:W1.heap[X]?=some (.cells #[.int .i64 (p.s:Int),.bool p.c,meetV p] 91):=by rw [hW1,(grown_cells E _ _ w.drew).block X (row_lt hX) (by simpa using hXE)]; exact hX
  have hcp2:∀ ty dc,(Builtin.copy_ #[72,72] ty #[.slice (some ⟨E,o * 3 + i * 3,none⟩) k dc,.slice (some ⟨X,0,none⟩) 1 vc]).run Tryz.prog W1=.ok (goInt (Nat.min 1 k)) (W1.setCells E (o * 3 + i * 3) (plnE.enc p)):=fun ty dc =>
    run_copyP W1 ty E (o * 3 + i * 3) k dc ⟨X,0,none⟩ 1 vc (plnE.enc p) (by rw [hel]; simp only [Nat.min_def]; split <;> omega) (encAt hXW)
      (fun a ha=>by rw [hel] at ha; rw [cell_of_row _ _ _ _ _ _ r1,Array.getElem?_eq_getElem (by omega)]; rfl) (fun a ha=>frozen_of_row _ _ _ _ _ r1) (enc_one _)
  have hz2:¬ ((i:Int)=(l.length:Int)):=by omega
  have hb4:¬ (c=i):=by omega
  have hb2:¬ (c=q):=by omega
  have hw1:IntKind.i64.wrap ((i:Int) + 1)=(q:Int):=by rw [IntKind.wrap_i64] <;> omega
  have hw2:IntKind.i64.wrap ((l.length:Int) + 1)=(t:Int):=by rw [IntKind.wrap_i64] <;> omega
  have hb6:¬ ((c:Int) < (t:Int)):=by omega
  have hb7:(t:Int) ≤ (c:Int):=by omega
  have hb9:(q:Int) ≤ (t:Int):=by omega
  have hb10:(i:Int) ≤ (t:Int):=by omega
  have hqt:t - q=u:=by omega
  have hic:(i:Int) ≤ (c:Int):=by omega
  have hin:(i:Int) ≤ (l.length:Int):=by omega
  have mixed:Tryz.prog.follows Departure.mixedOrders=true:=by kernel_rfl
  clear h1 h1d r1 hXW hB hX h3
  subst hW1
  go_enter Tryz.func81,Tryz.ntmps81
  go_wp2_with (simp only [hov])
  go_region_law_o (refine step_copy_runI rfl _ _ 72 72 rfl _ _ (by simp [Act.eval,Act.put]) (by simp [Act.eval,Act.put]) (hcp1 _ _ _) ?_)
  go_wp2
  go_returns
  exact HRES.out
end Go.Proofs.YtbgbmfmgdgalbaaGreatDoor
namespace Go.Proofs.YtbgbmfmgdgalbaaGreatDoor
open Go.RowKit Go.Maps
set_option linter.unusedVariables false
set_option linter.unusedSimpArgs false
set_option maxHeartbeats 4000000 in
set_option maxRecDepth 100000 in
theorem ins_grow (X i vc:Nat) (p:Pq) (E o c:Nat) (l:List Pq) (hl:l.length ≤ 3298534883328) (w:World) (hB:PX w E o c l) (hi:i < l.length) (hX:w.heap[X]?=some (.cells #[.int .i64 (p.s:Int),.bool p.c,meetV p] 91)) (hroom:c < l.length + 1) :
    Calls Tryz.prog 81 #[.slice (some ⟨E,o * 3,none⟩) l.length c,.int .i64 (i:Int),.slice (some ⟨X,0,none⟩) 1 vc] w fun r w'=>InsP w (.slice (some ⟨E,o * 3,none⟩) l.length c) (l.take i ++ p :: l.drop i) r w':=by
  have hle:=hB.le
  have hcm:=hB.max
  obtain ⟨q,hq⟩:∃ q,i + 1=q:=⟨_,rfl⟩
  obtain ⟨u,hu⟩:∃ u,l.length - i=u:=⟨_,rfl⟩
  obtain ⟨t,ht⟩:∃ t,l.length + 1=t:=⟨_,rfl⟩
  have hz2:¬ ((i:Int)=(l.length:Int)):=by omega
  have hb4:¬ (c=i):=by omega
  have hw1:IntKind.i64.wrap ((i:Int) + 1)=(q:Int):=by rw [IntKind.wrap_i64] <;> omega
  have hw2:IntKind.i64.wrap ((l.length:Int) + 1)=(t:Int):=by rw [IntKind.wrap_i64] <;> omega
  have hb6:((c:Int) < (t:Int)):=by omega
  have hb9:(q:Int) ≤ (t:Int):=by omega
  have hb10:(i:Int) ≤ (t:Int):=by omega
  have hqt:t - q=u:=by omega
  obtain ⟨k,hk⟩:∃ k,t - i=k:=⟨_,rfl⟩
  have hw3:IntKind.i64.wrap ((t:Int) - (i:Int))=(k:Int):=by rw [IntKind.wrap_i64] <;> omega
  have hik:i + k=t:=by omega
  have hic:(i:Int) ≤ (c:Int):=by omega
  have hin:(i:Int) ≤ (l.length:Int):=by omega
  obtain ⟨i0,hi0,hz0,hz1,hz2'⟩:=info_parts infoP
  have hcs:∀ a v,(plnE.fl (l.take i))[a]?=some v → w.drew.cell? ((⟨E,o * 3,none⟩:Addr).add a)=some v:=fun a v ha=>hB.takeAt i (by omega) a v ha
  have hfi:(plnE.fl (l.take i)).length=i * 3:=by rw [flq_len,List.length_take]; congr 1; omega
  have hold:(Builtin.firstCells i0.size i (.slice (some ⟨E,o * 3,none⟩) i c)).run Tryz.prog w.drew=.ok (plnE.fl (l.take i)).toArray w.drew:=by
    rw [hz1]; exact run_firstCells_some w.drew 3 i ⟨E,o * 3,none⟩ i c (plnE.fl (l.take i)) hfi hcs
  have hrun:∀ ty,(Builtin.append_ #[72,3] ty #[.slice (some ⟨E,o * 3,none⟩) i c,.int .i64 (k:Int)]).run Tryz.prog w=_:=fun ty =>
    Lib.run_append_grow_zeros w 72 3 ty 91 i0 _ .i64 .i64 Tryz.underlying72 Tryz.underlying3 hi0 hz0 (some ⟨E,o * 3,none⟩) i c (plnE.fl (l.take i)) hold k (by omega) (by omega) (by omega) (by omega) (by rw [hz2']; omega) (by rw [hz2']; exact growslice_fits (by omega) (by omega))
  obtain ⟨c',hc'⟩:∃ c',grownCap w (i + k) c 91=c':=⟨_,rfl⟩
  have hc1:i + k ≤ c':=by rw [← hc']; exact grownCap_ge w (i + k) c 91
  have hcm':c' ≤ maxLen:=by rw [← hc']; exact grownCap_le_maxLen w (i + k) c 91 (by unfold maxLen; omega)
  rw [hc'] at hrun
  obtain ⟨CUR,hCUR⟩:∃ CUR,CUR=(plnE.fl (l.take i)).toArray ++ Builtin.zeroCells (Value.cells (.agg #[.int .i64 0,.bool false,.nilFunc])) k ++ Builtin.zeroCells (Value.cells (.agg #[.int .i64 0,.bool false,.nilFunc])) (c' - (i + k)):=⟨_,rfl⟩
  rw [← hCUR] at hrun
  obtain ⟨W1,hW1⟩:∃ W1,W1=w.drew.alloc (.cells CUR 91):=⟨_,rfl⟩
  rw [← hW1] at hrun
  have hbw:Below w.heap.size w W1:=by rw [hW1]; exact (Below.refl _ w).drew.alloc (Nat.le_refl _) _
  have hXW:W1.heap[X]?=some (.cells #[.int .i64 (p.s:Int),.bool p.c,meetV p] 91):=(hbw.block X (row_lt hX)).trans hX
  have hBE:PX W1 E o c l:=hB.on hbw
  have r0:W1.heap[w.heap.size]?=some (.cells CUR 91):=by rw [hW1]; exact one_alloc w.drew _
  have s0:CUR.size=c' * 3:=by
    rw [hCUR]; simp only [Array.size_append,size_zeroCells,List.size_toArray,hfi]
    rw [show (Value.cells (.agg #[.int .i64 0,.bool false,.nilFunc])).size=3 from rfl]; omega
  have hgl:∀ (j:Nat) (v:Value),(plnE.fl (l.take i))[j]?=some v → CUR[j]?=some v:=fun j v hj=>by
    have hl':=(List.getElem?_eq_some_iff.1 hj).1
    rw [hCUR,Array.getElem?_append_left (by simp; omega),Array.getElem?_append_left (by simpa using hl'),List.getElem?_toArray]
    exact hj
  have hel:(plnE.enc p).length=3:=rfl
  have hfl:(plnE.fl (l.drop i)).length=u * 3:=by rw [flq_len,List.length_drop,hu]
  have r1:=heap_cells w.heap.size _ (plnE.enc p) (i * 3) W1 CUR r0 (by rw [hel]; omega)
  have s1:=spl_size CUR (i * 3) (plnE.enc p) (by rw [hel]; omega)
  have HRES:Hid (InsP w (.slice (some ⟨E,o * 3,none⟩) l.length c) (l.take i ++ p :: l.drop i) (.returned (.slice (some ⟨w.heap.size,0,none⟩) t c')) ((W1.setCells w.heap.size (i * 3) (plnE.enc p)).drew.setCells w.heap.size (q * 3) (plnE.fl (l.drop i)))):=by
    have r1d:(W1.setCells w.heap.size (i * 3) (plnE.enc p)).drew.heap[w.heap.size]?=_:=r1
    have r2:=heap_cells w.heap.size _ (plnE.fl (l.drop i)) (q * 3) _ _ r1d (by rw [s1,hfl]; omega)
    have hP:=PX.fill (p:=p) (i:=i) (c:=c') (by omega) (by omega) (by unfold maxLen at hcm'; omega) (by omega) hgl (E:=w.heap.size) (W:=(W1.setCells w.heap.size (i * 3) (plnE.enc p)).drew.setCells w.heap.size (q * 3) (plnE.fl (l.drop i))) (by rw [hq]; exact r2)
    refine ⟨_,rfl,hP.prow' (by rw [ins_len l p i (by omega)]; omega),ModP.below ?_,fun k hk=>Or.inr (by cases hk; exact Nat.le_refl _)⟩
    have b1:=(grown_only w.heap.size (plnE.enc p) (i * 3) W1).below (B:=w.heap.size) (Nat.le_refl _)
    have b2:=(grown_only w.heap.size (plnE.fl (l.drop i)) (q * 3) (W1.setCells w.heap.size (i * 3) (plnE.enc p)).drew).below (B:=w.heap.size) (Nat.le_refl _)
    exact ((hbw.trans b1).drew).trans b2
  have hcp1:∀ ty dc,(Builtin.copy_ #[72,72] ty #[.slice (some ⟨w.heap.size,i * 3,none⟩) k dc,.slice (some ⟨X,0,none⟩) 1 vc]).run Tryz.prog W1=.ok (goInt (Nat.min 1 k)) (W1.setCells w.heap.size (i * 3) (plnE.enc p)):=fun ty dc =>
    run_copyP W1 ty w.heap.size (i * 3) k dc ⟨X,0,none⟩ 1 vc (plnE.enc p) (by rw [hel]; simp only [Nat.min_def]; split <;> omega) (encAt hXW)
      (fun a ha=>by rw [hel] at ha; rw [cell_of_row _ _ _ _ _ _ r0,Array.getElem?_eq_getElem (by omega)]; rfl) (fun a ha=>frozen_of_row _ _ _ _ _ r0) (enc_one _)
  obtain ⟨W2,hW2⟩:∃ W2,W2=W1.setCells w.heap.size (i * 3) (plnE.enc p):=⟨_,rfl⟩
  have hBE2:PX W2 E o c l:=hBE.same (by rw [hW2,(grown_cells w.heap.size _ _ W1).block E hBE.lt (by have:=hB.lt; simp; omega)])
  rw [← hW2] at r1 hcp1 HRES
  have r1d:W2.drew.heap[w.heap.size]?=_:=r1
  have hcp2:∀ ty dc sc,(Builtin.copy_ #[72,72] ty #[.slice (some ⟨w.heap.size,q * 3,none⟩) u dc,.slice (some ⟨E,o * 3 + i * 3,none⟩) u sc]).run Tryz.prog W2.drew=.ok (goInt (Nat.min u u)) (W2.drew.setCells w.heap.size (q * 3) (plnE.fl (l.drop i))):=fun ty dc sc =>
    run_copyP W2.drew ty w.heap.size (q * 3) u dc ⟨E,o * 3 + i * 3,none⟩ u sc (plnE.fl (l.drop i)) (by rw [hfl]; simp) (hBE2.dropAt i (by omega))
      (fun k hk=>by rw [cell_of_row _ _ _ _ _ _ r1d,Array.getElem?_eq_getElem (by omega)]; rfl) (fun k hk=>frozen_of_row _ _ _ _ _ r1d) (flq_one _)
  have hci:¬ (c'=i):=by omega
  have hcq:¬ (c'=q):=by omega
  have mixed:Tryz.prog.follows Departure.mixedOrders=true:=by kernel_rfl
  have HRUN:Hid _:=hrun
  obtain ⟨S,hS⟩:∃ S,w.heap.size=S:=⟨_,rfl⟩
  rw [hS] at hcp1 hcp2 HRES HRUN
  rw [hik] at HRUN
  clear hold hcs hrun hc' hz2' hz1 hz0 hi0 hfi hcm' hbw hXW hBE r0 s0 hgl r1 r1d hBE2 hfl hCUR s1 hB hX hS hW1 hel
  subst hW2
  go_enter Tryz.func81,Tryz.ntmps81
  go_upto_region 9 with fail
  go_wp2_with (at_builtin; go_must (refine Lib.wpList_append_run _ rfl _ _ 72 3 rfl (.slice (some ⟨E,o * 3,none⟩) i c) (.int .i64 (k:Int)) ?a1 ?a2 _ _ (HRUN.out _) ?_))
  case a1=>rfl
  case a2=>rfl
  go_region_law_o (refine step_copy_runI rfl _ _ 72 72 rfl _ _ (by simp [Act.eval,Act.put]) (by simp [Act.eval,Act.put]) (hcp2 _ _ _) ?_)
  go_wp2
  go_returns
  exact HRES.out
end Go.Proofs.YtbgbmfmgdgalbaaGreatDoor
namespace Go.Proofs.YtbgbmfmgdgalbaaGreatDoor
open Go.RowKit Go.Maps
set_option linter.unusedVariables false
set_option linter.unusedSimpArgs false
theorem insP_any (X i vc:Nat) (p:Pq) (qv:Value) (l:List Pq) (hl:l.length ≤ 3298534883328) (w:World) (h:PRow w qv l) (hi:i ≤ l.length) (hX:w.heap[X]?=some (.cells #[.int .i64 (p.s:Int),.bool p.c,meetV p] 91)) (hXE:qv.ownBlock ≠ some X) :
    Calls Tryz.prog 81 #[qv,.int .i64 (i:Int),.slice (some ⟨X,0,none⟩) 1 vc] w fun r w'=>InsP w qv (l.take i ++ p :: l.drop i) r w':=by
  rcases h.px with ⟨rfl,rfl⟩ | ⟨E,o,c,rfl,hB⟩
  · have:i=0:=by simpa using hi
    subst this
    exact insE_nil X vc p w hX
  · by_cases he:i=l.length
    · subst he
      rw [ins_all]
      by_cases hr:l.length + 1 ≤ c
      · exact insE_fit X vc p E o c l w hB hl hr hX
      · exact insE_grow X vc p E o c l w hB hl (by omega) hX
    · by_cases hr:l.length + 1 ≤ c
      · exact ins_shift X i vc p E o c l hl w hB (by omega) hX (fun e=>hXE (by rw [e]; rfl)) hr
      · exact ins_grow X i vc p E o c l hl w hB (by omega) hX (by omega)
theorem PX.set {W:World} {E o c:Nat} {l:List Pq} {p:Pq} {cur:Array Value} {i:Nat} (hi:i < l.length) (hc:l.length ≤ c) (hm:o + c ≤ 9223372036854775807) (hs:(o + c) * 3 ≤ cur.size) (h3:∀ j u,(plnE.fl l)[j]?=some u → cur[o * 3 + j]?=some u)
    (hW:W.heap[E]?=some (.cells (spl cur (o * 3 + i * 3) (plnE.enc p)) 91)):PX W E o c (l.set i p):=by
  have hp:(plnE.enc p).length=3:=rfl
  have hz:(o * 3 + i * 3) + (plnE.enc p).length ≤ cur.size:=by rw [hp]; omega
  refine ⟨⟨_,hW,by rw [spl_size _ _ _ hz]; exact hs,fun j u hj=>?_⟩,by simpa using hc,hm⟩
  have hset:l.set i p=l.take i ++ p :: l.drop (i + 1):=by
    rw [List.set_eq_take_append_cons_drop,if_pos hi]
  have hf:plnE.fl (l.set i p)=plnE.fl (l.take i) ++ (plnE.enc p ++ plnE.fl (l.drop (i + 1))):=by rw [hset,flq_app,fl_cons]; rfl
  have ht:(plnE.fl (l.take i)).length=i * 3:=by rw [flq_len,List.length_take]; congr 1; omega
  rw [hf,List.getElem?_append,ht] at hj
  rw [spl_get _ _ _ _ hz,hp]
  by_cases h1:j < i * 3
  · rw [if_pos h1,flq_take l i (by omega),List.getElem?_take_of_lt h1] at hj
    rw [if_pos (by omega)]
    exact h3 j u hj
  · rw [if_neg h1,List.getElem?_append,hp] at hj
    by_cases h2:j - i * 3 < 3
    · rw [if_pos h2] at hj
      rw [if_neg (by omega),if_pos (by omega),← hj]
      congr 1; omega
    · rw [if_neg h2,flq_drop l (i + 1) (by omega),List.getElem?_drop] at hj
      rw [if_neg (by omega),if_neg (by omega)]
      have:=h3 _ u hj
      rw [← this]; congr 1; omega
def LayL (qs:List Pq) (p:Pq) (qs':List Pq):Prop:=∃ i,Plc qs p i∧((∃ h:i < qs.length,qs[i].s=p.s∧qs[i].c=p.c∧qs'=qs.set i p) ∨ ((¬ ∃ h:i < qs.length,qs[i].s=p.s∧qs[i].c=p.c)∧qs'=qs.take i ++ p :: qs.drop i))
def LayP (w:World) (g:Nat) (a0 a1 a2 a3 a4 a5 qv:Value) (qs:List Pq) (p:Pq) (e:Ending) (w':World):Prop:=e=.returned (.tuple #[])∧∃ qv' qs',LayL qs p qs'∧w'.heap[g]?=some (.cells #[a0,a1,a2,a3,a4,a5,qv'] 74)∧PRow w' qv' qs'∧(∀ k,qv'.ownBlock=some k → qv.ownBlock=some k ∨ w.heap.size ≤ k)∧ModP (fun k=>k=g ∨ qv.ownBlock=some k) w w'
end Go.Proofs.YtbgbmfmgdgalbaaGreatDoor
