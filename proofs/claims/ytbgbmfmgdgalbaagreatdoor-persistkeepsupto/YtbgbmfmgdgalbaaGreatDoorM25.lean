import Derived.Test.YtbgbmfmgdgalbaaGreatDoorM24
import Derived.Test.YtbgbmfmgdgalbaaGreatDoorRows
import Derived.JoinedCond
import Derived.ChangeArms
namespace Go.Proofs.YtbgbmfmgdgalbaaGreatDoor
open Go.RowKit Go.Maps
set_option linter.unusedVariables false
set_option linter.unusedSimpArgs false
theorem find_at24 {l:List (ByteArray × ByteArray)} {nm:ByteArray} {k:Nat} (h:∀ y ∈ l.take k,y.1 ≠ nm) (hk:k < l.length) (he:l[k].1=nm):lookM l nm=(l[k].2,true):=by
  have hs:l.take k ++ l.drop k=l:=List.take_append_drop k l
  have hd:l.drop k=l[k] :: l.drop (k + 1):=List.drop_eq_getElem_cons hk
  have h1:l.find? (fun y=>decide (y.1=nm))=(l.take k ++ l.drop k).find? (fun y=>decide (y.1=nm)):=by rw [hs]
  have h2:(l.drop k).find? (fun y=>decide (y.1=nm))=some l[k]:=by
    rw [hd,List.find?_cons_of_pos (by simp [he])]
  have h3:l.find? (fun y=>decide (y.1=nm))=some l[k]:=by
    rw [h1,List.find?_append,List.find?_eq_none.2 (fun y hy=>by simpa using h y hy),h2]
    rfl
  unfold lookM
  rw [h3]
theorem find_no24 {l:List (ByteArray × ByteArray)} {nm:ByteArray} (h:∀ y ∈ l,y.1 ≠ nm):lookM l nm=(⟨#[]⟩,false):=by
  unfold lookM
  rw [List.find?_eq_none.2 (fun y hy=>by simpa using h y hy)]
set_option maxHeartbeats 2000000 in
set_option maxRecDepth 20000 in
theorem find24_any (va:Value) (l:List (ByteArray × ByteArray)) (nm:ByteArray) (hl:l.length ≤ 4611686018427387000) (w:World) (hr:KR pprE w va l) :
    Calls Tryz.prog 13 #[va,.string nm] w fun e w'=>e=.returned (.tuple #[.string (lookM l nm).1,.bool (lookM l nm).2])∧w'=w:=by
  obtain ⟨P,c,rfl⟩:=hr.form
  obtain ⟨lv,lb,hlk⟩:∃ lv lb,lookM l nm=(lv,lb):=⟨_,_,rfl⟩
  rw [hlk]
  have HLK:Hid (lookM l nm=(lv,lb)):=hlk
  have HR:Hid (KR pprE w (.slice P l.length c) l):=hr
  have HL:Hid (l.length ≤ 4611686018427387000):=hl
  clear hr hl hlk
  go_enter Tryz.func13,Tryz.ntmps13
  go_wp2
  go_loopw [6] (fun ci wx=>∃ j:Nat,j ≤ l.length∧ci=.int .i64 (j:Int)∧(∀ y ∈ l.take j,y.1 ≠ nm)∧wx=w) (fun ci _=>l.length - (intOf ci).toNat)
  case atStart=>exact ⟨0,Nat.zero_le _,rfl,fun y hy=>by simp at hy,rfl⟩
  case round =>
    obtain ⟨j,hj,rfl,hno,hwe⟩:=hrel
    subst hwe
    have HNO:Hid (∀ y ∈ l.take j,y.1 ≠ nm):=hno
    clear hno
    by_cases hlt:j < l.length
    · obtain ⟨g,o,c',he,hc⟩:=HR.out.cell pprOk hlt
      injection he with h1 _ h2
      subst h1
      have hat:=find_at24 HNO.out hlt
      obtain ⟨⟨X1,X2⟩,hX⟩:∃ X,l[j]=X:=⟨_,rfl⟩
      have HNX:Hid (X1 ≠ nm → ∀ y ∈ l.take (j + 1),y.1 ≠ nm):=fun hne y hy=>by
        rw [List.take_add_one,List.getElem?_eq_getElem hlt,List.mem_append] at hy
        rcases hy with hy | hy
        · exact HNO.out y hy
        · have:y=l[j]:=by simpa using hy
          rw [this,hX]; exact hne
      have HLT:Hid (j < l.length):=hlt
      rw [hX] at hc hat
      have x0:wr.cell? ⟨g,o + j * 2,none⟩=some (.string X1):=hc 0 _ rfl
      have x2:wr.cell? ⟨g,o + j * 2 + 1,none⟩=some (.string X2):=hc 1 _ rfl
      have hz0:(0:Int) ≤ (j:Int):=by omega
      have hz1:(j:Int) < (l.length:Int):=by omega
      have hiw:IntKind.i64.wrap ((j:Int) + 1)=(j:Int) + 1:=by have:=HL.out; rw [IntKind.wrap_i64] <;> omega
      clear hc h2
      by_cases he:X1=nm
      · have hv:=hat he
        rw [HLK.out] at hv
        injection hv with hv1 hv2
        subst hv1 hv2
        have q1:(X1.toList == nm.toList)=true:=str_same (by rw [he])
        clear hat HNX hX hlt
        go_wp2
        go_returns
        exact ⟨rfl,rfl⟩
      · have q1:(X1.toList == nm.toList)=false:=str_other (ba_ne he)
        have HNE:Hid (∀ y ∈ l.take (j + 1),y.1 ≠ nm):=HNX.out he
        clear hat HNX hX hlt
        go_wp2
        go_roundw
        case rel=>exact ⟨j + 1,HLT.out,rfl,HNE.out,by first | rfl | trivial⟩
        case measure=>have:=HLT.out; simp [intOf]; omega
    · have he:j=l.length:=by omega
      subst he
      have hv:=find_no24 (l:=l) (nm:=nm) (fun y hy=>HNO.out y (by rw [List.take_length]; exact hy))
      rw [HLK.out] at hv
      injection hv with hv1 hv2
      subst hv1 hv2
      clear hlt hj
      go_wp2
      go_returns
      exact ⟨rfl,rfl⟩
theorem temp_list:({ data:=#[116,101,109,112,45] }:ByteArray).toList=[116,101,109,112,45]:=by rw [ByteArray.toList_eq]
end Go.Proofs.YtbgbmfmgdgalbaaGreatDoor
namespace Go.Proofs.YtbgbmfmgdgalbaaGreatDoor
open Go.RowKit Go.Maps
set_option linter.unusedVariables false
set_option linter.unusedSimpArgs false
theorem St.more24 {w0 W:World} {g:Nat} {X:Gh} {F:Fs} {i j:Nat} (h:St w0 W g X F i) (hj:i ≤ j):St w0 W g X F j:=⟨⟨h.fs,Nat.le_trans h.q hj,h.bel,h.own⟩,Nat.le_trans h.st hj,Nat.le_trans h.fi hj,Nat.le_trans h.ch hj,h.pk⟩
theorem cal_of {w0 W:World} {g i j:Nat} {X:Gh} {F F':Fs} {r:Int} {e:Ending} {w':World} (h:BcP w0 W g X F F' r i e w') (hj:i + 1 ≤ j):CalP w0 W g X F F' j (.int .i64 r) e w':=by
  obtain ⟨he,X',hs,hb⟩:=h
  exact ⟨he,X',hs.more24 hj,Bt.of hb⟩
theorem cal_more {w0 W:World} {g i j:Nat} {X:Gh} {F F':Fs} {v:Value} {e:Ending} {w':World} (h:CalP w0 W g X F F' i v e w') (hj:i ≤ j):CalP w0 W g X F F' j v e w':=by
  obtain ⟨he,X',hs,hb⟩:=h
  exact ⟨he,X',hs.more24 hj,hb⟩
theorem create_cal {w0 W:World} {g i:Nat} {X:Gh} {F:Fs} {n:ByteArray} (h:St w0 W g X F i) (hi:i < 3298534883000) (hn:n.size ≤ 140737488355328):Calls Tryz.prog 82 #[ptr (some g),.string n] W (CalP w0 W g X F (createM F n).1 (i + 1) (.int .i64 (createM F n).2)):=
  (Create_any goDownC g X F n hn W h.fs (h.sm (by omega)) (by have:=h.st; omega) (by have:=h.fi; omega) h.pk).mono fun e w' hh=>cal_of (bc_of h (createM_gp _ F n) hh.1 hh.2) (Nat.le_refl _)
theorem append_cal {w0 W:World} {g i:Nat} {X:Gh} {F:Fs} {n d:ByteArray} (h:St w0 W g X F i) (hi:i < 3298534883000) (hn:n.size ≤ 140737488355328) (hd:d.size ≤ 140737488355328):Calls Tryz.prog 83 #[ptr (some g),.string n,.string d] W (CalP w0 W g X F (appendM F n d).1 (i + 1) (.int .i64 (appendM F n d).2)):=
  (Append_any goDownC g X F n d hn hd W h.fs (h.sm (by omega)) (by have:=h.st; omega) h.pk).mono fun e w' hh=>cal_of (bc_of h (appendM_gp _ F n d) hh.1 hh.2) (Nat.le_refl _)
theorem fails_cal {w0 W:World} {g i:Nat} {X:Gh} {F:Fs} {n p:Int} (h:St w0 W g X F i) (hi:i < 3298534883000):Calls Tryz.prog 15 #[ptr (some g),.int .i64 n,.int .i64 p] W (CalP w0 W g X F (failsM F n p).1 (i + 1) (.int .i64 (failsM F n p).2)):=
  (Fail_any g X F n p W h.fs (h.sm (by omega))).mono fun e w' hh=>cal_of (bc_of h (failsM_gp _ F n p) hh.1 hh.2) (Nat.le_refl _)
end Go.Proofs.YtbgbmfmgdgalbaaGreatDoor
namespace Go.Proofs.YtbgbmfmgdgalbaaGreatDoor
open Go.ChangeShapes Go.WideShapes Go.RowKit Go.Maps
set_option linter.unusedVariables false
set_option linter.unusedSimpArgs false
theorem bulk_small {H:Type} {l:List (DataW H)} (hk:Rows.uptoSmall H l=true):Rows.uptoBulkAll l ≤ 1048576:=of_decide_eq_true hk
theorem bulk_one {H:Type} (d:DataW H):1 ≤ Rows.uptoBulk d:=by
  cases d with
  | lit l=>cases l <;> simp [Rows.uptoBulk]
  | nil=>simp [Rows.uptoBulk]
  | ptr d=>simp [Rows.uptoBulk]
  | slice elems spare=>simp [Rows.uptoBulk]
  | agg parts=>simp [Rows.uptoBulk]
  | iface t d=>simp [Rows.uptoBulk]
  | map entries=>simp [Rows.uptoBulk]
  | held h=>simp [Rows.uptoBulk]
theorem bulk_part {H:Type} {d:DataW H} {l:List (DataW H)} (h:d ∈ l):Rows.uptoBulk d ≤ Rows.uptoBulkAll l:=by
  induction l with
  | nil=>cases h
  | cons x r ih =>
    simp only [Rows.uptoBulkAll]
    cases List.mem_cons.1 h with
    | inl e=>subst e; omega
    | inr e=>have:=ih e; omega
theorem bulk_len {H:Type} (l:List (DataW H)):l.length ≤ Rows.uptoBulkAll l:=by
  induction l with
  | nil=>simp [Rows.uptoBulkAll]
  | cons x r ih=>have:=bulk_one x; simp only [Rows.uptoBulkAll,List.length_cons]; omega
end Go.Proofs.YtbgbmfmgdgalbaaGreatDoor
namespace Go.Proofs.YtbgbmfmgdgalbaaGreatDoor
open Go.RowKit Go.Maps
set_option linter.unusedVariables false
set_option linter.unusedSimpArgs false
theorem wh_look {F:Fs} {M:ByteArray × Bool → Prop} (h:Wh F M):M (lookM (nowM F) liveN):=by
  have:=(h.w _ (Nat.le_refl _)).1
  rw [h.ok.now,past_view] at this
  rw [look_now h.ok]
  exact this
end Go.Proofs.YtbgbmfmgdgalbaaGreatDoor
namespace Go.Proofs.YtbgbmfmgdgalbaaGreatDoor
open Go.ChangeShapes Go.WideShapes Go.RowKit Go.Maps
set_option linter.unusedVariables false
set_option linter.unusedSimpArgs false
theorem fun_of {α:Type} {P:Nat → α → Prop} (a:α) {n:Nat} (h:∀ i,i < n → ∃ x,P i x):∃ f:Nat → α,∀ i,i < n → P i (f i):=
  ⟨fun i=>if hi:i < n then (h i hi).choose else a,fun i hi=>by
    simp only [dif_pos hi]
    exact (h i hi).choose_spec⟩
set_option maxRecDepth 100000 in
theorem openU_texts {H:Type} {enc:TypeId × Value → H} {W:World} {fuel:Nat} {v:Value} {y:DataW H × List MemPlace}
    (h:DataW.trod enc Tryz.prog W 0 (fun _=>true) true fuel 22 [v]=some y) (hv:∃ ad len cap,v=.slice ad len cap) (hb:Rows.uptoBulk y.1 ≤ 1048576) :
    ∃ l:List ByteArray,KR psE W v l∧l.length ≤ 1048576∧(∀ t ∈ l,t.size ≤ 1048576)∧(l ≠ [] → ∀ b x n c,v=.slice (some ⟨b,x,none⟩) n c → b < W.heap.size):=by
  obtain ⟨ad,len,cap,rfl⟩:=hv
  rcases Go.Deep.open_slice Tryz.underlying22 h with ⟨hcs,hx⟩ | ⟨a,len',cap',m,n,D,Pl,hcs,_,hl,hm,hmm,hx,hcell⟩
  · simp at hcs
    obtain ⟨rfl,rfl,rfl⟩:=hcs
    exact ⟨[],KR.nil,by simp,(fun t ht=>by cases ht),fun h=>absurd rfl h⟩
  · simp at hcs
    obtain ⟨rfl,rfl,rfl⟩:=hcs
    subst hx
    simp only [if_true] at hmm
    subst hmm
    have hel:∀ i,i < len → Rows.uptoBulk (D i) ≤ 1048576:=by
      intro i hi
      have h1:=bulk_part (List.mem_map.2 ⟨i,List.mem_range.2 hi,rfl⟩:D i ∈ (List.range len).map D)
      simp only [Rows.uptoBulk] at hb
      omega
    have hlen:len ≤ 1048576:=by
      have h1:=bulk_len ((List.range len).map D)
      simp only [List.length_map,List.length_range] at h1
      simp only [Rows.uptoBulk] at hb
      omega
    obtain ⟨g,off,spot⟩:=a
    have hsp:len ≠ 0 → spot=none:=fun h=>by
      obtain ⟨cs',h1,h2⟩:=hcell 0 (by omega)
      rw [cellsS] at h1
      obtain ⟨_,hlen4,hc4⟩:=World.cells?_some h1
      have c0:=hc4 0 (by omega)
      obtain ⟨v0,hv0⟩:∃ v0,cs'[0]?=some v0:=⟨_,List.getElem?_eq_getElem (by omega)⟩
      rw [hv0] at c0
      simpa [Addr.add] using World.cell?_spot c0
    have hat:∀ i,i < len → ∃ z:ByteArray,z.size ≤ 1048576∧W.cell? ⟨g,off + i,none⟩=some (.string z):=fun i hi=>by
      obtain ⟨cs',h1,h2⟩:=hcell i (by omega)
      have hs:=hsp (by omega)
      subst hs
      rw [cellsS] at h1
      obtain ⟨_,hlen1,hc1⟩:=World.cells?_some h1
      match cs',hlen1 with
      | [v0],_ =>
        have c0:=hc1 0 (by omega)
        simp only [List.getElem?_cons_zero] at c0
        obtain ⟨z,e,hy,_⟩:=DataW.trod_string Tryz.underlying9 h2
        simp at e
        subst e
        have q:=hel i hi
        have hy2:D i=_:=congrArg Prod.fst hy
        rw [hy2] at q
        simp only [Rows.uptoBulk,list_len] at q
        refine ⟨z,by omega,?_⟩
        rw [Go.Deep.add_add,Lib.add_plain] at c0
        rw [← c0]
        congr 2
        omega
    obtain ⟨zs,hzs⟩:=fun_of (⟨#[]⟩:ByteArray) hat
    refine ⟨(List.range len).map zs,?_,by simpa using hlen,fun t ht=>?_,fun hne b x n c e=>?_⟩
    · by_cases h0:len=0
      · subst h0
        exact Or.inl ⟨by simp,some _,m,rfl,fun h=>by cases h⟩
      · have hs:=hsp h0
        subst hs
        refine Or.inr ⟨g,off,m,by rw [List.length_map,List.length_range],fun j u hu=>?_⟩
        rw [ps_fl,List.getElem?_map,List.getElem?_map] at hu
        have hj:j < len:=by
          rcases hq:(List.range len)[j]? with _ | z
          · rw [hq] at hu; cases hu
          · have:=(List.getElem?_eq_some_iff.1 hq).1; simpa using this
        rw [List.getElem?_range hj] at hu
        have hu2:Value.string (zs j)=u:=by simpa using hu
        rw [← hu2]
        exact (hzs j hj).2
    · obtain ⟨i,hi,rfl⟩:=List.mem_map.1 ht
      exact (hzs i (List.mem_range.1 hi)).1
    · injection e with e _ _
      injection e with e
      injection e with e1 _ _
      subst e1
      have h0:0 < len:=by
        rcases Nat.eq_zero_or_pos len with h0 | h0
        · subst h0; exact absurd rfl hne
        · exact h0
      exact lt_of_cell (hzs 0 h0).2
end Go.Proofs.YtbgbmfmgdgalbaaGreatDoor
