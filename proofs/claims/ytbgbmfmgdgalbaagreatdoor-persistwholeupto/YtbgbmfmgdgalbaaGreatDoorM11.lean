import Derived.Test.YtbgbmfmgdgalbaaGreatDoorM10
import Derived.Test.YtbgbmfmgdgalbaaGreatDoorM07
import Derived.Test.YtbgbmfmgdgalbaaGreatDoorShC
import Derived.Test.YtbgbmfmgdgalbaaGreatDoorM08
namespace Go.Proofs.YtbgbmfmgdgalbaaGreatDoor
open Go.RowKit Go.Maps
set_option linter.unusedVariables false
set_option linter.unusedSimpArgs false
def zeroQ (k:Nat):List Value:=(Builtin.zeroCells #[.int .i64 0,.bool false,.nilFunc] k).toList
theorem zeroQ_len (k:Nat):(zeroQ k).length=k * 3:=by unfold zeroQ; simp [Builtin.zeroCells]
theorem zeroQ_one (k:Nat):∀ v ∈ zeroQ k,v.oneCell'=true:=by
  intro v hv
  unfold zeroQ Builtin.zeroCells at hv
  simp at hv
  obtain ⟨i,_,rfl⟩:=hv
  have h3:i % 3=0 ∨ i % 3=1 ∨ i % 3=2:=by omega
  rcases h3 with h | h | h <;> rw [h] <;> rfl
theorem run_clrQ (E o k c:Nat) (ty:TypeId) (W:World) (cur:Array Value) (hE:W.heap[E]?=some (.cells cur 91)) (ho:o + k * 3 ≤ cur.size) :
    Sem.run Tryz.prog (Builtin.clear_ #[72] ty #[.slice (some ⟨E,o,none⟩) k c]) W=.ok (.tuple #[]) (W.setCells E o (zeroQ k)):=by
  obtain ⟨i0,hi,hz0,hz1,hz2⟩:=info_parts infoP
  have hst:=run_storeCells_cells (P:=Tryz.prog) E o (zeroQ k) 0 W (fun j hj=>by rw [zeroQ_len] at hj; rw [cell_of_row _ _ _ _ _ _ hE,Array.getElem?_eq_getElem (by omega)]; rfl) (fun j hj=>frozen_of_row _ _ _ _ _ hE) (zeroQ_one _)
  simp only [Nat.add_zero] at hst
  cases k with
  | zero =>
    have hz:zeroQ 0=[]:=by unfold zeroQ Builtin.zeroCells; simp
    rw [hz]
    simp only [Builtin.clear_]
    simp [go_sem]
    rfl
  | succ k =>
    unfold zeroQ at hst ⊢
    simp only [Builtin.clear_]
    simp [go_sem]
    rw [hst]
    rfl
set_option maxHeartbeats 2000000 in
set_option maxRecDepth 100000 in
theorem deleteQ_any (E o c:Nat) (l:List Pq) (hl:l.length ≤ 3298534883328) (w:World) (hB:PX w E o c l) :
    Calls Tryz.prog 43 #[.slice (some ⟨E,o * 3,none⟩) l.length c,.func (.func 44) #[] #[]] w fun e w'=>e=.returned (.slice (some ⟨E,o * 3,none⟩) (l.filter okQ).length c)∧ModP (fun k=>k=E) w w'∧PX w' E o c (l.filter okQ):=by
  have HB:Hid (PX w E o c l):=hB
  have HI:Hid _:=indexQ_any _ l hl w hB.prow.kr
  have hle:=hB.le
  have hmx:=hB.max
  have HEC:=eM_cr1
  clear hB
  go_enter Tryz.func43,Tryz.ntmps43
  go_wp2_with fail
  refine (show Calls _ _ _ _ _ from HI.out).mono ?_
  rintro e w1 ⟨hb1,⟨i,hi,rfl,hlo,hat⟩ | ⟨rfl,hall⟩⟩
  · have HB1:Hid (Below w.heap.size w w1):=hb1
    have HINI:Hid (DI w1 E o c l i (i + 1)):=DI.ini (HB.out.on hb1) hi hlo hat
    have hm1:¬ ((i:Int)=-1):=by omega
    clear hb1 hlo hat
    go_wp2
    go_loopw [5,6,7] (fun ci cj _ wr=>∃ i j:Nat,i < j∧j ≤ l.length∧ci=.int .i64 (i:Int)∧cj=.int .i64 (j:Int)∧DI wr E o c l i j∧ModP (fun k=>k=E) w wr) (fun _ cj _ _=>l.length - (intOf cj).toNat)
    case atStart=>exact ⟨i,i + 1,by omega,by omega,rfl,by first | rfl | congr 1,HINI.out,ModP.below HB1.out⟩
    case round =>
      clear HINI HB1 hm1 hi
      obtain ⟨i,j,hij,hj,rfl,rfl,hD,hG⟩:=hrel
      have HD:Hid (DI wr E o c l i j):=hD
      have HG:Hid (ModP (fun k=>k=E) w wr):=hG
      obtain ⟨cur,r1,r2,r3,r5⟩:=hD.row
      have HN:Hid _:=hD.num
      by_cases hlt:j < l.length
      · have x0:wr.cell? ⟨E,o * 3 + j * 3,none⟩=some (.int .i64 (l[j].s:Int)):=by rw [cell_of_row _ _ _ _ _ _ r1]; exact r5 j hlt (Nat.le_refl _) 0 _ rfl
        have x1:wr.cell? ⟨E,o * 3 + j * 3 + 1,none⟩=some (.bool l[j].c):=by rw [cell_of_row _ _ _ _ _ _ r1,Nat.add_assoc]; exact r5 j hlt (Nat.le_refl _) 1 _ rfl
        have x2:wr.cell? ⟨E,o * 3 + j * 3 + 2,none⟩=some (meetV l[j]):=by rw [cell_of_row _ _ _ _ _ _ r1,Nat.add_assoc]; exact r5 j hlt (Nat.le_refl _) 2 _ rfl
        have hEl:E < wr.heap.size:=row_lt r1
        have hz0:(0:Int) ≤ (j:Int):=by omega
        have hz1:(j:Int) < (l.length:Int):=by omega
        have hzi:(0:Int) ≤ (i:Int):=by omega
        have hzn:(i:Int) < (l.length:Int):=by omega
        have hjw:IntKind.i64.wrap ((j:Int) + 1)=(j:Int) + 1:=by rw [IntKind.wrap_i64] <;> omega
        have hiw:IntKind.i64.wrap ((i:Int) + 1)=(i:Int) + 1:=by rw [IntKind.wrap_i64] <;> omega
        have HEI:Hid (∀ W,Calls Tryz.prog 44 #[.agg #[.int .i64 (l[j].s:Int),.bool l[j].c,meetV l[j]]] W fun e w'=>e=.returned (.bool l[j].c)∧Below W.heap.size W w'):=fun W=>Crash1_any l[j] W
        have HO:Hid (okQ l[j]=!l[j].c):=rfl
        have HM1:Hid ((meetV l[j]).oneCell'=true):=rfl
        have HPUT:Hid (∀ W',W'.heap[E]?=some (.cells (spl cur (o * 3 + i * 3) [.int .i64 (l[j].s:Int),.bool l[j].c,meetV l[j]]) 91) → okQ l[j]=!false → DI W' E o c l (i + 1) (j + 1)):=fun W' hW ho=>DI.put (W:=wr) r2 hle r3 r5 HN.out hlt hij ho hW
        have HR1:Hid (wr.heap[E]?=some (.cells cur 91)):=r1
        obtain ⟨b,hbb⟩:∃ b,l[j].c=b:=⟨_,rfl⟩
        obtain ⟨ys,hys⟩:∃ ys,l[j].s=ys:=⟨_,rfl⟩
        obtain ⟨mv,hmv⟩:∃ mv,meetV l[j]=mv:=⟨_,rfl⟩
        rw [hbb] at HO x1
        rw [hys] at x0
        rw [hmv] at x2 HM1
        rw [hbb,hys,hmv] at HEI HPUT
        clear hD hG hbb hys hmv r1 r3 r5
        go_upto_region 8 with (first
          | (refine ldP E (o * 3 + j * 3) (.int .i64 (ys:Int)) (.bool b) mv _ rfl rfl rfl x0 x1 x2 ?_)
          | (refine stP rfl _ _ rfl wr.heap.size 0 (.int .i64 (ys:Int)) (.bool b) mv #[.int .i64 0,.bool false,.nilFunc] rfl rfl ⟨rfl,rfl,HM1.out⟩ (one_alloc _ _) (by simp) ?_; intro W2 hr2 ho2))
        have hv2:W2.heap[wr.heap.size]?=some (.cells #[.int .i64 (ys:Int),.bool b,mv] 91):=hr2
        have hb2:Below wr.heap.size wr W2:=((Below.refl _ wr).alloc (Nat.le_refl _) _).trans (ho2.below (Nat.le_refl _))
        have HV2:Hid _:=hv2
        have HB2:Hid (Below wr.heap.size wr W2):=hb2
        obtain ⟨y0,y1,y2,_⟩:=row3 hv2
        clear hr2 ho2 x0 x1 x2 hv2 hb2
        go_wp2_with fail
        refine (show Calls _ _ _ _ _ from HEI.out _).mono ?_
        rintro e w3 ⟨rfl,hb3⟩
        have hv3:=(hb3.block _ (row_lt HV2.out)).trans HV2.out
        have HB3:Hid (Below wr.heap.size wr w3):=bel_to HB2.out hb3 (Nat.le_refl _)
        obtain ⟨v0,v1,v2,_⟩:=row3 hv3
        clear hb3 y0 y1 y2 hv3
        cases b with
        | true =>
          have HR:Hid (DI w3 E o c l i (j + 1)):=(HD.out.on HB3.out).skip hlt HO.out
          have HG2:Hid (ModP (fun k=>k=E) w w3):=HG.out.trans (ModP.below HB3.out)
          go_wp2
          go_roundw
          case rel=>first | exact ⟨i,j + 1,by omega,by omega,rfl,by first | rfl | congr 1,HR.out,HG2.out⟩ | exact ⟨_,_,_,_,_,_,_,_,_,_,_,_,_,_,_,_,_,_,_,_,_,_,_,⟨i,j + 1,by omega,by omega,rfl,by first | rfl | congr 1,HR.out,HG2.out⟩,rfl⟩
          case measure=>simp [intOf]; omega
        | false =>
          have HR3:Hid (w3.heap[E]?=some (.cells cur 91)):=(HB3.out.block E hEl).trans HR1.out
          go_wp2_with (refine stP rfl _ _ rfl E (o * 3 + i * 3) (.int .i64 (ys:Int)) (.bool false) mv cur rfl rfl ⟨rfl,rfl,HM1.out⟩ HR3.out (by omega) ?_; intro W4 hr4 ho4)
          have HR:Hid (DI W4 E o c l (i + 1) (j + 1)):=HPUT.out W4 hr4 HO.out
          have HG2:Hid (ModP (fun k=>k=E) w W4):=(HG.out.trans (ModP.below HB3.out)).trans (ModP.only ho4 rfl)
          go_roundw
          case rel=>first | exact ⟨i + 1,j + 1,by omega,by omega,by first | rfl | congr 1,by first | rfl | congr 1,HR.out,HG2.out⟩ | exact ⟨_,_,_,_,_,_,_,_,_,_,_,_,_,_,_,_,_,_,_,_,_,_,_,⟨i + 1,j + 1,by omega,by omega,by first | rfl | congr 1,by first | rfl | congr 1,HR.out,HG2.out⟩,rfl⟩
          case measure=>simp [intOf]; omega
      · have he:j=l.length:=by omega
        subst he
        rw [List.take_length] at r3
        have r4:i=(l.filter okQ).length:=by have:=HN.out; rw [List.take_length] at this; exact this
        obtain ⟨k,hk⟩:∃ k,l.length - i=k:=⟨_,rfl⟩
        have hcl:∀ ty cc,Sem.run Tryz.prog (Builtin.clear_ #[72] ty #[.slice (some ⟨E,o * 3 + i * 3,none⟩) k cc]) wr=.ok (.tuple #[]) (wr.setCells E (o * 3 + i * 3) (zeroQ k)):=fun ty cc=>run_clrQ E (o * 3 + i * 3) k cc ty wr cur r1 (by omega)
        have hzl:=zeroQ_len k
        have hzz:(o * 3 + i * 3) + (zeroQ k).length ≤ cur.size:=by omega
        have HR:Hid (PX (wr.setCells E (o * 3 + i * 3) (zeroQ k)) E o c (l.filter okQ)):=by
          refine ⟨⟨_,heap_cells E _ (zeroQ k) (o * 3 + i * 3) wr cur r1 hzz,by rw [spl_size _ _ _ hzz]; exact r2,fun t u hu=>?_⟩,by omega,hmx⟩
          have hl':=(List.getElem?_eq_some_iff.1 hu).1
          rw [flq_len,← r4] at hl'
          rw [spl_get _ _ _ _ hzz,if_pos (by omega)]
          exact r3 t u hu
        have HG2:Hid (ModP (fun k=>k=E) w (wr.setCells E (o * 3 + i * 3) (zeroQ k))):=HG.out.trans (ModP.only (grown_only E _ _ wr) rfl)
        have HI4:Hid (i=(l.filter okQ).length):=r4
        have hci:¬ (c=i):=by omega
        have hic:(i:Int) ≤ (c:Int):=by omega
        have hin:(i:Int) ≤ (l.length:Int):=by omega
        clear r1 r2 r3 r4 r5 hG hD hzl hzz
        go_wp2
        go_returns
        exact ⟨by rw [← HI4.out]; rfl,HG2.out,HR.out⟩
  · have hf:l.filter okQ=l:=List.filter_eq_self.2 (fun x hx=>by obtain ⟨t,ht,rfl⟩:=List.getElem_of_mem hx; exact hall t ht)
    have HF:Hid _:=hf
    have HG:Hid (ModP (fun k=>k=E) w w1∧PX w1 E o c l):=⟨ModP.below hb1,HB.out.on hb1⟩
    clear hb1 hall hf
    go_wp2
    go_returns
    rw [HF.out]
    exact ⟨rfl,HG.out⟩
end Go.Proofs.YtbgbmfmgdgalbaaGreatDoor
namespace Go.Proofs.YtbgbmfmgdgalbaaGreatDoor
open Go.RowKit Go.Maps
set_option linter.unusedVariables false
set_option linter.unusedSimpArgs false
def chkP (F:Fs) (n least:Int):Int:=if F.down then 203 else if n < least ∨ 1099511627776 < n then 1 else 0
set_option maxHeartbeats 1000000 in
theorem checkPlan_any (g:Nat) (X:Gh) (F:Fs) (n least:Int) (w:World) (h:FsC w g X F):Calls Tryz.prog 37 #[ptr (some g),.int .i64 n,.int .i64 least] w fun e w'=>e=.returned (.int .i64 (chkP F n least))∧w'=w:=by
  obtain ⟨c0,_⟩:=h.cells
  clear h
  unfold ptr chkP
  obtain ⟨dn,hdn⟩:∃ dn,F.down=dn:=⟨_,rfl⟩
  rw [hdn] at c0 ⊢
  clear hdn
  cases dn with
  | true =>
    go_enter Tryz.func37,Tryz.ntmps37
    go_wp2
    go_ret
    exact ⟨rfl,rfl⟩
  | false =>
    by_cases h1:n < least
    · rw [if_pos (Or.inl h1)]
      go_enter Tryz.func37,Tryz.ntmps37
      go_wp2
      go_ret
      exact ⟨rfl,rfl⟩
    · by_cases h2:1099511627776 < n
      · rw [if_pos (Or.inr h2)]
        go_enter Tryz.func37,Tryz.ntmps37
        go_wp2
        go_ret
        exact ⟨rfl,rfl⟩
      · rw [if_neg (show ¬ (n < least ∨ 1099511627776 < n) by omega)]
        go_enter Tryz.func37,Tryz.ntmps37
        go_wp2
        go_ret
        exact ⟨rfl,rfl⟩
set_option maxHeartbeats 1000000 in
theorem Read_any (g:Nat) (X:Gh) (F:Fs) (n:ByteArray) (hn:n.size ≤ 140737488355328) (w:World) (h:FsP w g X F) :
    Calls Tryz.prog 68 #[ptr (some g),.string n] w fun e w'=>e=.returned (.tuple #[.string (readM F n).1,.int .i64 (readM F n).2])∧Below w.heap.size w w':=by
  have HFI:Hid _:=find0_any g X F n hn w h
  by_cases h0:hasM F n=0
  · obtain ⟨hd,hnm,hf⟩:=has_zero.1 h0
    obtain ⟨i,hi1,hi2,hi3,hl⟩:=h.named hf
    have hy:=fnd_yes (X:=X) (os:=[]) hd (by simpa using hnm) hf
    rw [hy,h0,hi2] at HFI
    have hM:readM F n=((F.files.getD i ⟨⟨#[]⟩,0⟩).d,0):=by
      unfold readM; rw [if_pos h0,hi2]
    rw [hM]
    have HF:Hid (∀ W,Below w.heap.size w W → FileAt W (X.fb i) i (F.files.getD i ⟨⟨#[]⟩,0⟩) (X.pv i) (X.ps i)):=fun W hb=>((h.on hb).file hl)
    generalize F.files.getD i ⟨⟨#[]⟩,0⟩=x at *
    generalize X.fb i=bb at *
    clear h hd hnm hf hi1 hi2 hi3 hl hy h0
    unfold ptr at HFI ⊢
    go_enter Tryz.func68,Tryz.ntmps68
    go_wp2_with fail
    refine (show Calls _ _ _ _ _ from HFI.out).mono ?_
    rintro e w1 ⟨rfl,hb1⟩
    have hf:=HF.out w1 hb1
    obtain ⟨d0,d1,d2,d3,df⟩:=file_cells hf.blk
    have HC:Hid _:=hf.first x.d.size (Nat.le_refl _)
    have HE:Hid (x.d.extract 0 x.d.size=x.d):=ext_all _
    have HB1:Hid (Below w.heap.size w w1):=hb1
    generalize x.d.size=sz at *
    unfold ptr at HC
    clear hb1 hf df
    go_wp2_with fail
    refine (show Calls _ _ _ _ _ from HC.out).mono ?_
    rintro e w2 ⟨rfl,hb⟩
    have HB2:Hid (Below w1.heap.size w1 w2):=hb
    rw [HE.out]
    clear hb
    go_wp2
    go_returns
    exact ⟨rfl,HB1.out.trans (HB2.out.mono HB1.out.size)⟩
  · have hno:=fnd_no (F:=F) (X:=X) (n:=n) (os:=[]) (fun hh=>h0 (has_zero.2 ⟨hh.1,by simpa using hh.2.1,hh.2.2⟩))
    rw [hno.1] at HFI
    have hM:readM F n=(⟨#[]⟩,hasM F n):=by unfold readM; rw [if_neg h0]
    rw [hM]
    obtain ⟨er,her⟩:∃ er,hasM F n=er:=⟨_,rfl⟩
    rw [her] at HFI h0 ⊢
    have hne:(er == 0)=false:=by simpa using h0
    clear h hno hM her
    unfold ptr at HFI ⊢
    go_enter Tryz.func68,Tryz.ntmps68
    go_wp2_with fail
    refine (show Calls _ _ _ _ _ from HFI.out).mono ?_
    rintro e w1 ⟨rfl,hb1⟩
    have HB1:Hid (Below w.heap.size w w1):=hb1
    clear hb1
    go_wp2
    go_returns
    exact ⟨rfl,HB1.out⟩
end Go.Proofs.YtbgbmfmgdgalbaaGreatDoor
namespace Go.Proofs.YtbgbmfmgdgalbaaGreatDoor
open Go.RowKit Go.Maps
set_option linter.unusedVariables false
set_option linter.unusedSimpArgs false
theorem row_ty {W:World} {k:Nat} {cs cs':Array Value} {t t':Nat} {fz fz':Nat × Nat} (h:W.heap[k]?=some (.cells cs t fz)) (h':W.heap[k]?=some (.cells cs' t' fz')):t=t':=by
  have:=h.symm.trans h'
  injection this with this
  injection this
theorem FsP.fail_laid {w W0 w':World} {g R:Nat} {X:Gh} {F:Fs} {p:Pq} {part:Int} {e:Ending} (h:FsP w g X F) (hb:Below w.heap.size w W0) (hR:W0.heap[R]?=some (.cells #[.int .i64 part] 3)) (hc:p.c=false) (hpb:p.b=R) (hwR:w.heap.size ≤ R) (hs:F.steps < p.s)
    (hL:LayP W0 g (.bool F.down) (.int .i64 (F.steps:Int)) (.int .i64 (F.files.length:Int)) (.map (some X.mn)) (.map (some X.ms)) X.cv X.qv X.qs p e w'):e=.returned (.tuple #[])∧∃ X',Bec w g X F w' X' { F with fails:=F.fails ++ [((p.s:Int),part)] }:=by
  obtain ⟨he,qv',qs',hl,hg',hrow',hk',hm'⟩:=hL
  have h0:=h.on hb
  have hf:=hl.facts h.pln.srt
  have hkeep:∀ {k:Nat} {cs:Array Value} {t:Nat} {fz:Nat × Nat},W0.heap[k]?=some (.cells cs t fz) → ¬ tyOwn t → w'.heap[k]?=W0.heap[k]?:=fun {k cs t fz} hk ht=>hm'.oth k (row_lt hk) (fun hs=>by
    rcases hs with rfl | hs
    · exact ht (by rw [row_ty hk h0.blk]; exact Or.inl rfl)
    · obtain ⟨cur,hc⟩:=h0.row.type hs
      exact ht (by rw [row_ty hk hc]; exact Or.inr (Or.inr (Or.inr (Or.inr rfl)))))
  have hC:=h0.toFsC.repl (F':={ F with fails:=F.fails ++ [((p.s:Int),part)] }) hm' ⟨rfl,rfl,rfl,rfl⟩ hg' hrow'
  have hP:FsP w' g { X with qv:=qv',qs:=qs' } { F with fails:=F.fails ++ [((p.s:Int),part)] }:=by
    refine ⟨hC,h.pln.fail hf hc hs,fun q hq=>?_⟩
    rcases hf.new q hq with rfl | ⟨hq',hn⟩
    · refine ⟨fun h=>(by rw [hc] at h; cases h),fun _=>⟨part,?_,?_⟩⟩
      · rw [hpb]; exact (hkeep hR (by unfold tyOwn; decide)).trans hR
      · show failM (F.fails ++ [((q.s:Int),part)]) q.s=some part
        rw [failM_app,if_pos rfl]
    · exact ((h0.hld q hq').fail hc hn).to (fun k cs t fz hk ht=>hkeep hk ht)
  exact ⟨he,_,Bec.repl h.toFsC ((ModP.below hb).trans hm') ⟨rfl,rfl,rfl,rfl⟩ hP (fun k hk=>(hk' k hk).imp id (fun q=>Nat.le_trans hb.size q)) hf.len (fun q hq=>(hf.new q hq).symm.imp (fun h6=>h6.1) (fun h6=>by subst h6; exact ⟨by rw [hpb]; exact hwR,fun h7=>by rw [hc] at h7; cases h7⟩))⟩
set_option maxHeartbeats 2000000 in
set_option maxRecDepth 100000 in
theorem Fail_any (g:Nat) (X:Gh) (F:Fs) (n part:Int) (w:World) (h:FsP w g X F) (hs:Sm F X) :
    Calls Tryz.prog 15 #[ptr (some g),.int .i64 n,.int .i64 part] w fun e w'=>e=.returned (.int .i64 (failsM F n part).2)∧∃ X',Bec w g X F w' X' (failsM F n part).1:=by
  obtain ⟨W0,hW0⟩:∃ W0,w.alloc (.cells #[.int .i64 part] 3)=W0:=⟨_,rfl⟩
  obtain ⟨R,hR⟩:∃ R,w.heap.size=R:=⟨_,rfl⟩
  have hb0:Below w.heap.size w W0:=by rw [← hW0]; exact (Below.refl _ _).alloc (Nat.le_refl _) _
  have hr0:W0.heap[R]?=some (.cells #[.int .i64 part] 3):=by rw [← hW0,← hR]; exact one_alloc _ _
  have h0:=h.on hb0
  have HCK:Hid _:=checkPlan_any g X F n 1 W0 h0.toFsC
  by_cases hck:chkP F n 1=0
  · have hdn:F.down=false:=by
      unfold chkP at hck
      cases hd:F.down
      · rfl
      · rw [hd] at hck; simp at hck
    have hnn:¬ (n < 1 ∨ 1099511627776 < n):=fun hh=>by
      unfold chkP at hck
      rw [hdn,if_neg (by decide),if_pos hh] at hck; cases hck
    have hst:=hs.st
    obtain ⟨s,hsn⟩:∃ s:Nat,(s:Int)=(F.steps:Int) + n:=⟨F.steps + n.toNat,by omega⟩
    have hM:failsM F n part=({ F with fails:=F.fails ++ [((s:Int),part)] },0):=by
      unfold failsM; rw [hdn,if_neg (by decide),if_neg hnn,hsn]
    have hw:IntKind.i64.wrap ((F.steps:Int) + n)=(s:Int):=by rw [IntKind.wrap_i64] <;> omega
    have HLY:Hid (Calls Tryz.prog 38 #[ptr (some g),agQ ⟨s,false,R⟩] W0 fun e w'=>e=.returned (.tuple #[])∧∃ X',Bec w g X F w' X' { F with fails:=F.fails ++ [((s:Int),part)] }):=(layP_any g _ _ _ _ _ _ X.qv X.qs h.pln.srt hs.qs ⟨s,false,R⟩ W0 h0.blk h0.row).mono (fun e w' hL=>h.fail_laid (p:=⟨s,false,R⟩) hb0 hr0 rfl rfl (by rw [← hR]; exact Nat.le_refl _) (show F.steps < s by omega) hL)
    obtain ⟨_,c1,_⟩:=h0.cells
    rw [hck] at HCK
    rw [hM]
    unfold ptr agQ meetV at HLY
    simp only [Bool.false_eq_true,if_false,Option.map] at HLY
    clear h h0 hs hck hdn hnn hst hsn hM hr0 hb0
    unfold ptr at HCK ⊢
    go_enter Tryz.func15,Tryz.ntmps15
    go_upto_region 1 with fail
    clear hW0
    go_wp2_with fail
    refine (show Calls _ _ _ _ _ from HCK.out).mono ?_
    rintro e w1 ⟨rfl,rfl⟩
    go_wp2_with fail
    refine (show Calls _ _ _ _ _ from HLY.out).mono ?_
    rintro e w2 ⟨rfl,hB⟩
    have HB:Hid _:=hB
    clear hB
    go_wp2
    go_returns
    exact ⟨rfl,HB.out⟩
  · have hM:failsM F n part=(F,chkP F n 1):=by
      unfold failsM chkP at *
      cases hd:F.down
      · rw [hd] at hck
        simp only [Bool.false_eq_true,if_false] at hck ⊢
        by_cases hh:n < 1 ∨ 1099511627776 < n
        · rw [if_pos hh,if_pos hh]
        · rw [if_neg hh] at hck; exact absurd rfl hck
      · rfl
    rw [hM]
    have HB:Hid (∃ X',Bec w g X F W0 X' F):=⟨X,(Bec.refl h0).pre hb0⟩
    obtain ⟨er,her⟩:∃ er,chkP F n 1=er:=⟨_,rfl⟩
    rw [her] at HCK hck ⊢
    have hne:(er == 0)=false:=by simpa using hck
    clear h h0 hs hM her hr0 hb0
    unfold ptr at HCK ⊢
    go_enter Tryz.func15,Tryz.ntmps15
    go_upto_region 1 with fail
    clear hW0
    go_wp2_with fail
    refine (show Calls _ _ _ _ _ from HCK.out).mono ?_
    rintro e w1 ⟨rfl,rfl⟩
    go_wp2
    go_returns
    exact ⟨rfl,HB.out⟩
end Go.Proofs.YtbgbmfmgdgalbaaGreatDoor
namespace Go.Proofs.YtbgbmfmgdgalbaaGreatDoor
open Go.RowKit Go.Maps
set_option linter.unusedVariables false
set_option linter.unusedSimpArgs false
set_option maxHeartbeats 2000000 in
set_option maxRecDepth 100000 in
theorem mclone_any (b k:Nat) (f:ByteArray → Option Nat) (w:World) (h:MapIs w b k f):Calls Tryz.prog 87 #[.map (some b)] w fun e w'=>e=.returned (.map (some w.heap.size))∧MapIs w' w.heap.size k f∧Below w.heap.size w w':=by
  obtain ⟨D,⟨es,clock,hb,hF⟩,hm⟩:=h
  have hq:=fun w=>run_eql_map_nil_sl (P:=Tryz.prog) w 70 _ _ (some b) Tryz.underlying70
  have HFIN:Hid (MapIs (w.alloc (.map es clock)) w.heap.size k f):=⟨D,⟨es,clock,one_alloc _ _,hF⟩,hm⟩
  clear hF hm
  go_enter Tryz.func87,Tryz.ntmps87
  go_wp2
  rw [run_callFunc_extern Tryz.func130 (by kernel_rfl) (by kernel_rfl) (by kernel_rfl) (e:=Extern.MapsClone.clone) (by kernel_rfl),run_maps_clone_sl w 70 hb]
  simp only [Result.andThen]
  rw [Oper.upon_value]
  go_wp2
  rw [run_typeAssert_map_sl _ 70 20 _ _ _ Tryz.underlying70]
  simp only [Result.andThen]
  rw [Oper.upon_value]
  go_wp2
  go_ret
  exact ⟨rfl,HFIN.out,(Below.refl _ _).alloc (Nat.le_refl _) _⟩
end Go.Proofs.YtbgbmfmgdgalbaaGreatDoor
namespace Go.Proofs.YtbgbmfmgdgalbaaGreatDoor
open Go.RowKit Go.Maps
set_option linter.unusedVariables false
set_option linter.unusedSimpArgs false
theorem eM_syncdir (args:Array Value) (w:World):(callFunc 111 args).run Tryz.prog w=.ok (.enter 111 args) w:=by kernel_rfl
def SdP (w:World) (g:Nat) (a0 a1 a2 a6:Value) (mn k:Nat) (f:ByteArray → Option Nat) (w':World):Prop:=∃ mb,w.heap.size ≤ mb∧w'.heap[g]?=some (.cells #[a0,a1,a2,.map (some mn),.map (some mb),.slice none 0 0,a6] 74)∧MapIs w' mb k f∧ModP (fun k=>k=g) w w'
set_option maxHeartbeats 2000000 in
set_option maxRecDepth 100000 in
theorem SyncDir1_any (g b0 T0:Nat) (a0 a1 a2 a4 a5 a6:Value) (mn k:Nat) (f:ByteArray → Option Nat) (w:World) (h0:w.heap[b0]?=some (.cells #[ptr (some g)] T0)) (hg:w.heap[g]?=some (.cells #[a0,a1,a2,.map (some mn),a4,a5,a6] 74)) (hm:MapIs w mn k f) (hbg:b0 ≠ g) :
    Calls Tryz.prog 111 #[.pointer (some ⟨b0,0,none⟩)] w fun e w'=>e=.returned (.tuple #[])∧SdP w g a0 a1 a2 a6 mn k f w':=by
  have c0:w.drew.cell? ⟨b0,0,none⟩=some (.pointer (some ⟨g,0,none⟩)):=cell1 h0
  obtain ⟨_,_,_,c3',c4',c5',_,_⟩:=fsC7 hg
  have c3:w.drew.cell? ⟨g,3,none⟩=some (.map (some mn)):=c3'
  have HMC:Hid (∀ m,Calls Tryz.prog 87 #[.map (some mn)] (w.drewN m) fun e w'=>e=.returned (.map (some w.heap.size))∧MapIs w' w.heap.size k f∧Below w.heap.size (w.drewN m) w'):=fun m=>mclone_any mn k f (w.drewN m) hm
  have HG:Hid (w.heap[g]?=some (.cells #[a0,a1,a2,.map (some mn),a4,a5,a6] 74)):=hg
  have H0:Hid (w.heap[b0]?=some (.cells #[ptr (some g)] T0)):=h0
  have HNE:Hid (b0 ≠ g):=hbg
  have hgl:=row_lt hg
  have hbl:=row_lt h0
  obtain ⟨R,hR⟩:∃ R,w.heap.size=R:=⟨_,rfl⟩
  rw [hR] at HMC hgl hbl
  have HR:Hid (w.heap.size=R):=hR
  have HK:Hid (∀ W,Below R w W → (∀ v,(W.setCell ⟨g,4,none⟩ v).cell? ⟨b0,0,none⟩=some (.pointer (some ⟨g,0,none⟩))∧(W.setCell ⟨g,4,none⟩ v).cell? ⟨g,3,none⟩=some (.map (some mn))∧∀ u,((W.setCell ⟨g,4,none⟩ v).setCell ⟨g,5,none⟩ u).cell? ⟨b0,0,none⟩=some (.pointer (some ⟨g,0,none⟩))∧((W.setCell ⟨g,4,none⟩ v).setCell ⟨g,5,none⟩ u).cell? ⟨g,3,none⟩=some (.map (some mn)))∧(W.cell? ⟨b0,0,none⟩=some (.pointer (some ⟨g,0,none⟩))∧W.cell? ⟨g,3,none⟩=some (.map (some mn)))∧(W.cell? ⟨g,4,none⟩=some a4∧W.frozen? ⟨g,4,none⟩=false∧W.frozen? ⟨g,5,none⟩=false∧W.cell? ⟨g,5,none⟩=some a5)):=fun W hb=>by
    have hg1:=(hb.block g hgl).trans HG.out
    have h01:=(hb.block b0 hbl).trans H0.out
    obtain ⟨_,_,_,d3,d4,d5,_,df⟩:=fsC7 hg1
    refine ⟨fun v=>?_,⟨cell1 h01,d3⟩,d4,df 4,df 5,d5⟩
    have hg2:=(fs_set hg1 4 v)
    have e1:(W.setCell ⟨g,4,none⟩ v).heap[b0]?=_:=(hg2.2.other b0 HNE.out).trans h01
    have hg2':(W.setCell ⟨g,4,none⟩ v).heap[g]?=some (.cells #[a0,a1,a2,.map (some mn),v,a5,a6] 74):=hg2.1
    refine ⟨cell1 e1,(fsC7 hg2').2.2.2.1,fun u=>?_⟩
    have hg3:=fs_set hg2' 5 u
    have hg3':((W.setCell ⟨g,4,none⟩ v).setCell ⟨g,5,none⟩ u).heap[g]?=some (.cells #[a0,a1,a2,.map (some mn),v,u,a6] 74):=hg3.1
    exact ⟨cell1 ((hg3.2.other b0 HNE.out).trans e1),(fsC7 hg3').2.2.2.1⟩
  have hw0:Below R w w.drew:=(Below.refl _ _).drew
  clear hg hm h0 hbg c3' c4' c5' hgl hbl hR
  go_enter Tryz.func111,Tryz.ntmps111
  go_wp2_with fail
  go_region_held3 (fun W:World=>W.cell? ⟨b0,0,none⟩=some (.pointer (some ⟨g,0,none⟩))∧W.cell? ⟨g,3,none⟩=some (.map (some mn)))
    (first | with_reducible exact ⟨c0,c3⟩ | with_reducible exact (HK.out _ hx).2.1 | with_reducible exact ⟨((HK.out _ hx).1 _).1,((HK.out _ hx).1 _).2.1⟩ | with_reducible exact ((HK.out _ hx).1 _).2.2 _)
    (first
      | (go_at_call 87; refine (show Calls _ _ _ _ _ from HMC.out 1).mono ?_; rintro e w1 ⟨rfl,hm1,hb1⟩; have hx:Below R w w1:=hw0.trans hb1; obtain ⟨_,_,x4,xf4,xf5,x5⟩:=HK.out _ hx))
  go_end0
  have hgl:g < R:=by rw [← HR.out]; exact row_lt HG.out
  have hg1:=(hx.block g hgl).trans HG.out
  have hg2:=fs_set hg1 4 (.map (some R))
  have hg2':(w1.setCell ⟨g,4,none⟩ (.map (some R))).heap[g]?=some (.cells #[a0,a1,a2,.map (some mn),.map (some R),a5,a6] 74):=hg2.1
  have hg3:=fs_set hg2' 5 (.slice none 0 0)
  refine ⟨rfl,R,by rw [HR.out]; exact Nat.le_refl _,hg3.1,hm1.to ?_,?_⟩
  · rw [hg3.2.other R (by omega),hg2.2.other R (by omega)]
  · have m1:ModP (fun k=>k=g) w w1:=ModP.below (by rw [HR.out]; exact hx)
    have m2:ModP (fun k=>k=g) w1 _:=ModP.only hg2.2 rfl
    have m3:ModP (fun k=>k=g) (w1.setCell ⟨g,4,none⟩ (.map (some R))) _:=ModP.only hg3.2 rfl
    exact (m1.trans m2).trans m3
theorem FsP.syncdir {w w':World} {g:Nat} {X:Gh} {F:Fs} {k:Nat} (h:FsP w g X F) (hp:SdP w g (.bool F.down) (.int .i64 (F.steps:Int)) (.int .i64 (F.files.length:Int)) X.qv X.mn k (dirF F.dir X.fb) w'):∃ X',Bec w g X F w' X' { F with sure:=F.dir,chg:=[] }:=by
  obtain ⟨mb,hmb,hb,hm,hmd⟩:=hp
  obtain ⟨n1,n2,n3,n4,n5⟩:=h.ne_g
  have hL:∀ i,Live { F with sure:=F.dir,chg:=[] } { X with ms:=mb,cv:=.slice none 0 0,cf:=[] } i → Live F X i:=fun i hi=>by
    rcases hi with hi | hi | hi
    · exact Or.inl hi
    · exact Or.inl hi
    · cases hi
  obtain ⟨k1,hn⟩:=h.now
  refine ⟨{ X with ms:=mb,cv:=.slice none 0 0,cf:=[] },⟨⟨⟨fun j hj=>?_,rfl,rfl,(fun i hi=>by cases hi),(fun x hx=>by cases hx)⟩,hb,⟨k1,hn.to (hmd.oth _ hn.lt n1)⟩,⟨k,hm⟩,?_,⟨rfl,Or.inl ⟨rfl,rfl⟩⟩,h.row.to (fun q hq=>by obtain ⟨cur,hc⟩:=h.row.type hq; exact hmd.oth q (row_lt hc) (n5 q hq)),fun i x hl hx=>?_,fun i j hi hj=>h.inj i j (hL i hi) (hL j hj)⟩,⟨h.pln.srt,h.pln.ahead,h.pln.all,h.pln.cr⟩,fun q hq=>?_⟩,hmd.weak (fun j _ e=>Or.inl e),fun j hj=>?_,by simp,fun q hq=>Or.inl hq⟩
  · have e:dirK { F with sure:=F.dir,chg:=[] } j=F.dir:=by unfold dirK; simp
    rw [e]; exact h.ok.dir
  · show X.mn ≠ mb
    have:=hn.lt; omega
  · have hl':=hL i hl
    have hf:=h.fil i x hl' hx
    exact hf.to (hmd.oth _ (row_lt hf.blk) (n3 i hl').1) (fun q hq=>hmd.oth q (own_lt hf.own hq) ((n3 i hl').2 q hq))
  · have:=h.hld q hq
    refine (show Holds w { F with sure:=F.dir,chg:=[] } q from ⟨this.cr,this.fl⟩).to (fun j cs t fz hj ht=>hmd.oth j (row_lt hj) (fun e=>ht ?_))
    subst e
    have h1:=hj.symm.trans h.blk
    injection h1 with h1
    injection h1 with _ h2
    rw [h2]; exact Or.inl rfl
  · rcases hj with rfl | rfl | rfl | ⟨i,hl,hk⟩ | hk | hk
    · exact Or.inl (Or.inl rfl)
    · exact Or.inl (Or.inr (Or.inl rfl))
    · exact Or.inr hmb
    · exact Or.inl (Or.inr (Or.inr (Or.inr (Or.inl ⟨i,hL i hl,hk⟩))))
    · cases hk
    · exact Or.inl (Or.inr (Or.inr (Or.inr (Or.inr (Or.inr hk)))))
set_option maxHeartbeats 2000000 in
set_option maxRecDepth 100000 in
theorem SyncDir_any (HGD:GoDownC) (g:Nat) (X:Gh) (F:Fs) (w:World) (h:FsP w g X F) (hs:Sm F X) (hs1:F.steps < 3298534883328) (hpk:F.picks.length ≤ 17592186044416) :
    Calls Tryz.prog 67 #[ptr (some g)] w fun e w'=>e=.returned (.int .i64 (syncDirM F).2)∧∃ X',Bec w g X F w' X' (syncDirM F).1:=by
  obtain ⟨R,hR⟩:∃ R,w.heap.size=R:=⟨_,rfl⟩
  obtain ⟨W0,hW0⟩:∃ W0,w.alloc (.cells #[.pointer (some ⟨g,0,none⟩)] 25)=W0:=⟨_,rfl⟩
  have n1:W0.heap[R]?=some (.cells #[.pointer (some ⟨g,0,none⟩)] 25):=by rw [← hW0,← hR]; exact one_alloc _ _
  have n4:Below w.heap.size w W0:=by rw [← hW0]; exact (Below.refl _ _).alloc (Nat.le_refl _) _
  have hF0:FsP W0 g X F:=h.on n4
  have HCK:Hid _:=check_any g X F (.slice none 0 0) [] (by decide) (fun s hs=>by cases hs) W0 hF0 (KR.own (E:=psE) (nil_own W0) rfl)
  have hck:chkM F []=if F.down then 203 else 0:=by unfold chkM; rfl
  rw [hck] at HCK
  have HB0:Hid (Below w.heap.size w W0):=n4
  have HF0:Hid (FsP W0 g X F):=hF0
  have c0:=cell1 n1
  have HST:Hid (Calls Tryz.prog 110 #[ptr (some g),.func (.func 111) #[] #[.pointer (some ⟨R,0,none⟩)]] W0 fun e w'=>StepP g X F W0 (fun w1 w'=>SdP w1 g (.bool F.down) (.int .i64 ((F.steps + 1:Nat):Int)) (.int .i64 (F.files.length:Int)) X.qv X.mn F.dir.length (dirF F.dir X.fb) w') (fun _ w1 _ w'=>w'=w1) e w'):=step_any HGD g X F 111 eM_syncdir #[] _ _ W0 hF0 hs hs1 hpk (fun w1 hm hF=>by
    have hg:g < R:=by rw [← hR]; exact row_lt h.blk
    exact SyncDir1_any g R _ _ _ _ _ _ _ X.mn F.dir.length (dirF F.dir X.fb) w1 (hm.fresh h n1 (by omega)) hF.blk hF.now_k (by omega))
  have HFN:Hid (∀ w' e,StepP g X F W0 (fun w1 w'=>SdP w1 g (.bool F.down) (.int .i64 ((F.steps + 1:Nat):Int)) (.int .i64 (F.files.length:Int)) X.qv X.mn F.dir.length (dirF F.dir X.fb) w') (fun _ w1 _ w'=>w'=w1) e w' → F.down=false → e=.returned (.int .i64 (syncDirM F).2)∧∃ X',Bec w g X F w' X' (syncDirM F).1):=fun w' e hp hd=>by
    refine hp.fin n4 (syncDirM F) (fun a b=>?_) (fun a=>?_)
    · have hM:syncDirM F=({ up1 F with sure:=F.dir,chg:=[] },0):=by
        unfold syncDirM
        rw [hd]
        simp only [Bool.false_eq_true,if_false]
        rw [if_pos a,b]; rfl
      rw [hM]
      refine ⟨rfl,fun w1 hm hF hpd=>?_⟩
      obtain ⟨X',hB⟩:=hF.syncdir hpd
      exact ⟨X',hB.is,hm.andThen hB.md (fun j _ hj=>hj),fun k hk=>(hB.own k hk).imp id (fun q=>Nat.le_trans hm.size q),hB.len,fun q hq=>(hB.nq q hq).imp id (fun h6=>h6.le hm.size)⟩
    · unfold syncDirM
      rw [hd]
      simp only [Bool.false_eq_true,if_false]
      rw [if_neg a]
  rcases hd:F.down with _ | _
  · rw [hd] at HCK
    have HFN':Hid _:=fun w' e hp=>HFN.out w' e hp hd
    clear h hs hs1 hpk n1 n4 hF0 hck hd HFN
    unfold ptr at HCK HST ⊢
    go_enter Tryz.func67,Tryz.ntmps67
    go_wp2_with fail
    refine (show Calls _ _ _ _ _ from HCK.out).mono ?_
    rintro e w1 ⟨rfl,rfl⟩
    go_wp2_with fail
    refine (show Calls _ _ _ _ _ from HST.out).mono ?_
    rintro e w2 hp
    obtain ⟨he,hB⟩:=HFN'.out w2 e hp
    have HBB:Hid _:=hB
    subst he
    clear hp hB
    go_wp2
    go_returns
    exact ⟨rfl,HBB.out⟩
  · rw [hd] at HCK
    have hM:syncDirM F=(F,203):=by unfold syncDirM; rw [hd]; rfl
    rw [hM]
    clear h hs hs1 hpk n1 n4 hF0 hck hd HFN HST hM
    unfold ptr at HCK ⊢
    go_enter Tryz.func67,Tryz.ntmps67
    go_wp2_with fail
    refine (show Calls _ _ _ _ _ from HCK.out).mono ?_
    rintro e w1 ⟨rfl,rfl⟩
    go_wp2
    go_returns
    exact ⟨rfl,X,(Bec.refl HF0.out).pre HB0.out⟩
end Go.Proofs.YtbgbmfmgdgalbaaGreatDoor
