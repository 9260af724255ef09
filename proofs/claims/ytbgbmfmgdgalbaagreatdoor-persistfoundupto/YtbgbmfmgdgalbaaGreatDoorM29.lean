import Derived.Test.YtbgbmfmgdgalbaaGreatDoorM28
namespace Go.Proofs.YtbgbmfmgdgalbaaGreatDoor
open Go.RowKit Go.Maps
set_option linter.unusedVariables false
set_option linter.unusedSimpArgs false
set_option maxHeartbeats 1000000 in
theorem polder_any (i:Nat) (h2:i ≤ 9) (w:World):Calls Tryz.prog 32 #[.int .i64 (i:Int)] w fun e w'=>e=.returned (.string (oldN i))∧w'=w:=by
  obtain ⟨dg,hdg⟩:∃ dg:ByteArray,dg=⟨#[UInt8.ofNat (48 + i)]⟩:=⟨_,rfl⟩
  have HQ:Hid _:=pdigits_small i h2 dg hdg w
  have HO:Hid ((⟨#[100,117,109,112,46,114,100,98,46]⟩:ByteArray) ++ ⟨#[UInt8.ofNat (48 + i)]⟩=oldN i):=rfl
  rw [← hdg] at HO
  have hds:dg.size=1:=by rw [hdg]; rfl
  have hsz:(⟨#[100,117,109,112,46,114,100,98,46]⟩:ByteArray).size + dg.size ≤ 9223372036854775807:=by rw [hds]; decide
  clear h2 hdg
  go_enter Tryz.func32,Tryz.ntmps32
  go_wp2_with fail
  refine (show Calls _ _ _ _ _ from HQ.out).mono ?_
  rintro e w1 ⟨rfl,rfl⟩
  clear HQ
  go_wp2
  go_returns
  exact ⟨by rw [← HO.out]; rfl,rfl⟩
def rdT (F:Fs) (n:ByteArray):Value:=if (readM F n).2=0 then .tuple #[.string (readM F n).1,.bool true,.int .i64 0] else if (readM F n).2=201 then .tuple #[.string ⟨#[]⟩,.bool false,.int .i64 0] else .tuple #[.string ⟨#[]⟩,.bool false,.int .i64 (readM F n).2]
set_option maxHeartbeats 2000000 in
theorem pread_any {w0 w:World} {g i:Nat} {X:Gh} {F:Fs} (h:St w0 w g X F i) (n:ByteArray) (hn:n.size ≤ 140737488355328):Calls Tryz.prog 31 #[ptr (some g),.string n] w fun e w'=>e=.returned (rdT F n)∧Below w.heap.size w w':=by
  have HQ:Hid _:=Read_any g X F n hn w h.fs
  obtain ⟨t,e1,hr⟩:∃ t e1,readM F n=(t,e1):=⟨_,_,rfl⟩
  unfold rdT
  rw [hr] at HQ ⊢
  simp only at HQ ⊢
  clear hr h hn
  unfold ptr at HQ ⊢
  by_cases h0:e1=0
  · subst h0
    rw [if_pos rfl]
    go_enter Tryz.func31,Tryz.ntmps31
    go_wp2_with fail
    refine (show Calls _ _ _ _ _ from HQ.out).mono ?_
    rintro e w1 ⟨rfl,hb⟩
    have HB:Hid _:=hb
    clear hb HQ
    go_wp2
    go_returns
    exact ⟨rfl,HB.out⟩
  · rw [if_neg h0]
    have heb:(e1 == 0)=false:=beq_eq_false_iff_ne.mpr h0
    by_cases h1:e1=201
    · subst h1
      rw [if_pos rfl]
      go_enter Tryz.func31,Tryz.ntmps31
      go_wp2_with fail
      refine (show Calls _ _ _ _ _ from HQ.out).mono ?_
      rintro e w1 ⟨rfl,hb⟩
      have HB:Hid _:=hb
      clear hb HQ
      go_wp2
      go_returns
      exact ⟨rfl,HB.out⟩
    · rw [if_neg h1]
      have heb1:(e1 == 201)=false:=beq_eq_false_iff_ne.mpr h1
      go_enter Tryz.func31,Tryz.ntmps31
      go_wp2_with fail
      refine (show Calls _ _ _ _ _ from HQ.out).mono ?_
      rintro e w1 ⟨rfl,hb⟩
      have HB:Hid _:=hb
      clear hb HQ
      go_wp2
      go_returns
      exact ⟨rfl,HB.out⟩
set_option maxHeartbeats 1000000 in
set_option maxRecDepth 100000 in
theorem pindex_any (v:Value) (l:List ByteArray) (n:ByteArray) (hl:l.length ≤ 1048576) (w:World) (h:KR psE w v l) :
    Calls Tryz.prog 162 #[v,.string n] w fun e w'=>Below w.heap.size w w'∧∃ r:Int,e=.returned (.int .i64 r)∧(0 ≤ r ↔ n ∈ l):=by
  obtain ⟨P,c,rfl⟩:=h.form
  have H:Hid (KR psE w (.slice P l.length c) l):=h
  clear h
  go_enter Tryz.func162,Tryz.ntmps162
  go_wp2
  go_loopw [8] (fun ci wr=>∃ i:Nat,i ≤ l.length∧ci=.int .i64 (i:Int)∧Below w.heap.size w wr∧∀ t (h:t < l.length),t < i → n ≠ l[t]) (fun ci _=>l.length - (intOf ci).toNat)
  case atStart=>exact ⟨0,by omega,rfl,Below.refl _ _,fun t _ h=>by omega⟩
  case round =>
    obtain ⟨i,hi,rfl,hb,hall⟩:=hrel
    have HBR:Hid (Below w.heap.size w wr):=hb
    have HALL:Hid _:=hall
    by_cases hlt:i < l.length
    · obtain ⟨E,o,c',he,hcell⟩:=(H.out.on hb).cell psOk hlt
      injection he with he1 _ he2
      subst he1
      have x0:wr.cell? ⟨E,o + i * 1,none⟩=some (.string l[i]):=hcell 0 _ rfl
      rw [Nat.mul_one] at x0
      have hz0:(0:Int) ≤ (i:Int):=by omega
      have hz1:(i:Int) < (l.length:Int):=by omega
      have hiw:IntKind.i64.wrap ((i:Int) + 1)=(i:Int) + 1:=by rw [IntKind.wrap_i64] <;> omega
      have HMM:Hid (l[i] ∈ l):=List.getElem_mem hlt
      clear hb hall hcell he2
      by_cases heq:n=l[i]
      · have hs:(n.toList == l[i].toList)=true:=str_same (by rw [← heq])
        have HE:Hid (n=l[i]):=heq
        clear heq
        obtain ⟨y,hy⟩:∃ y,l[i]=y:=⟨_,rfl⟩
        rw [hy] at x0 hs HE HMM
        clear hy
        go_wp2
        go_returns
        exact ⟨HBR.out,_,rfl,fun _=>by rw [HE.out]; exact HMM.out,fun _=>by omega⟩
      · have hs:(n.toList == l[i].toList)=false:=str_other (fun e=>heq (by cases n with | mk a=>cases hq:l[i] with | mk b=>rw [hq] at e; exact congrArg _ (Array.toList_inj.1 e)))
        have HNE:Hid (n ≠ l[i]):=heq
        clear heq
        have HNN:Hid (∀ t (h:t < l.length),t < i + 1 → n ≠ l[t]):=fun t ht hti=>by
          rcases Nat.lt_or_eq_of_le (Nat.le_of_lt_succ hti) with h1 | h1
          · exact HALL.out t ht h1
          · subst h1; exact HNE.out
        clear HNE HMM
        obtain ⟨y,hy⟩:∃ y,l[i]=y:=⟨_,rfl⟩
        rw [hy] at x0 hs
        clear hy
        go_wp2
        go_roundw
        case rel=>exact ⟨i + 1,hlt,by first | rfl | congr 1,HBR.out,HNN.out⟩
        case measure=>simp [intOf]; omega
    · have he:i=l.length:=by omega
      subst he
      clear hb hall
      go_wp2
      go_returns
      exact ⟨HBR.out,_,rfl,fun h=>by omega,fun h=>by
        obtain ⟨t,ht,e⟩:=List.getElem_of_mem h
        exact absurd e.symm (HALL.out t ht ht)⟩
def memB (l:List ByteArray) (n:ByteArray):Bool:=l.any fun m=>decide (m=n)
theorem memB_iff {l:List ByteArray} {n:ByteArray}:memB l n=true ↔ n ∈ l:=by
  unfold memB
  rw [List.any_eq_true]
  constructor
  · rintro ⟨m,hm,h⟩
    have:m=n:=of_decide_eq_true h
    rw [← this]; exact hm
  · intro h; exact ⟨n,h,decide_eq_true rfl⟩
set_option maxHeartbeats 1000000 in
theorem pcontains_any (v:Value) (l:List ByteArray) (n:ByteArray) (hl:l.length ≤ 1048576) (w:World) (h:KR psE w v l) :
    Calls Tryz.prog 139 #[v,.string n] w fun e w'=>Below w.heap.size w w'∧e=.returned (.bool (memB l n)):=by
  have HQ:Hid _:=pindex_any v l n hl w h
  clear h hl
  go_enter Tryz.func139,Tryz.ntmps139
  go_wp2_with fail
  refine (show Calls _ _ _ _ _ from HQ.out).mono ?_
  rintro e w1 ⟨hb,r,rfl,hr⟩
  have HB:Hid _:=hb
  have HR:Hid _:=hr
  clear hb hr HQ
  by_cases h0:0 ≤ r
  · have HD:Hid (memB l n=true):=memB_iff.2 (HR.out.1 h0)
    go_wp2
    go_returns
    exact ⟨HB.out,by rw [HD.out]; rfl⟩
  · have HD:Hid (memB l n=false):=by
      show _=_
      rcases hb:memB l n with _ | _
      · rfl
      · exact absurd (HR.out.2 (memB_iff.1 hb)) h0
    go_wp2
    go_returns
    exact ⟨HB.out,by rw [HD.out]; show Ending.returned (.bool (decide (0 ≤ r)))=_; rw [decide_eq_false (by omega)]⟩
end Go.Proofs.YtbgbmfmgdgalbaaGreatDoor
namespace Go.Proofs.YtbgbmfmgdgalbaaGreatDoor
open Go.RowKit Go.Maps
set_option linter.unusedVariables false
set_option linter.unusedSimpArgs false
theorem sync_cal {w0 W:World} {g i:Nat} {X:Gh} {F:Fs} {n:ByteArray} (h:St w0 W g X F i) (hi:i < 3298534883000) (hn:n.size ≤ 140737488355328):Calls Tryz.prog 144 #[ptr (some g),.string n] W (CalP w0 W g X F (syncM F n).1 (i + 1) (.int .i64 (syncM F n).2)):=
  (Sync_any goDownC g X F n hn W h.fs (h.sm (by omega)) (by have:=h.st; omega) h.pk).mono fun e w' hh=>cal_of (bc_of h (syncM_gp _ F n) hh.1 hh.2) (Nat.le_refl _)
theorem remove_cal {w0 W:World} {g i:Nat} {X:Gh} {F:Fs} {n:ByteArray} (h:St w0 W g X F i) (hi:i < 3298534883000) (hn:n.size ≤ 140737488355328):Calls Tryz.prog 73 #[ptr (some g),.string n] W (CalP w0 W g X F (removeM F n).1 (i + 1) (.int .i64 (removeM F n).2)):=
  (Remove_any goDownC g X F n hn W h.fs (h.sm (by omega)) (by have:=h.st; omega) h.pk).mono fun e w' hh=>cal_of (bc_of h (removeM_gp _ F n) hh.1 hh.2) (Nat.le_refl _)
theorem rename_cal {w0 W:World} {g i:Nat} {X:Gh} {F:Fs} {n t:ByteArray} (h:St w0 W g X F i) (hi:i < 3298534883000) (hn:n.size ≤ 140737488355328) (ht:t.size ≤ 140737488355328):Calls Tryz.prog 146 #[ptr (some g),.string n,.string t] W (CalP w0 W g X F (renameM F n t).1 (i + 1) (.int .i64 (renameM F n t).2)):=
  (Rename_any goDownC g X F n t hn ht W h.fs (h.sm (by omega)) (by have:=h.st; omega) h.pk).mono fun e w' hh=>cal_of (bc_of h (renameM_gp _ F n t) hh.1 hh.2) (Nat.le_refl _)
theorem syncDir_cal {w0 W:World} {g i:Nat} {X:Gh} {F:Fs} (h:St w0 W g X F i) (hi:i < 3298534883000):Calls Tryz.prog 67 #[ptr (some g)] W (CalP w0 W g X F (syncDirM F).1 (i + 1) (.int .i64 (syncDirM F).2)):=
  (SyncDir_any goDownC g X F W h.fs (h.sm (by omega)) (by have:=h.st; omega) h.pk).mono fun e w' hh=>cal_of (bc_of h (syncDirM_gp _ F) hh.1 hh.2) (Nat.le_refl _)
def Sv (B:World) (K:Nat → Prop) (S g:Nat):Prop:=K S∧∃ t keep,B.heap[S]?=some (.cells #[ptr (some g),.string t,.int .i64 keep] 77)
theorem saving_cells {W:World} {S g:Nat} {t:ByteArray} {keep:Int} (h:W.heap[S]?=some (.cells #[ptr (some g),.string t,.int .i64 keep] 77)):W.cell? ⟨S,0,none⟩=some (ptr (some g))∧W.cell? ⟨S,1,none⟩=some (.string t)∧W.cell? ⟨S,2,none⟩=some (.int .i64 keep):=by
  refine ⟨?_,?_,?_⟩ <;> rw [cell_of_row _ _ _ _ _ _ h] <;> rfl
theorem syncDir_stp (B:World) (K:Nat → Prop) (g:Nat):StepV B K g ((67,#[ptr (some g)],#[]),syncDirM,1):=
  ⟨fun args w=>by kernel_rfl,fun F i h=>h.syncDir,fun w0 W X F i h hI hi hC=>syncDir_cal h (by simp only at hi; omega)⟩
theorem eM_wr1 (args:Array Value) (w:World):(callFunc 141 args).run Tryz.prog w=.ok (.enter 141 args) w:=by kernel_rfl
set_option maxHeartbeats 1000000 in
theorem wr1_stp {B:World} {K:Nat → Prop} {S g b0 b1:Nat} {n:ByteArray} (hS:Sv B K S g) (k0:K b0) (r0:B.heap[b0]?=some (.cells #[ptr (some S)] 75)) (k1:K b1) (r1:B.heap[b1]?=some (.cells #[.string n] 9)) (z1:n.size ≤ 140737488355328):StepV B K g ((141,#[],#[ptr (some b0),ptr (some b1)]),(fun G=>createM G n),1):=by
  refine ⟨eM_wr1,fun F i h=>h.create _,fun w0 W X F i h hI hi hC=>?_⟩
  simp only at hi ⊢
  have HQ:Hid (∀ W1,Below W.heap.size W W1 → Calls Tryz.prog 82 #[.pointer (some ⟨g,0,none⟩),.string n] W1 (CalP w0 W1 g X F (createM F n).1 (i + 1) (.int .i64 (createM F n).2))):=fun W1 hb=>create_cal (h.on hb) (by omega) z1
  obtain ⟨kS,t0,keep,rS⟩:=hS
  have HKP:Hid (∀ W1 X1 F1,Bt W g X F W1 X1 F1 → W1.cell? ⟨b0,0,none⟩=some (.pointer (some ⟨S,0,none⟩))∧W1.cell? ⟨S,0,none⟩=some (.pointer (some ⟨g,0,none⟩))∧W1.cell? ⟨b1,0,none⟩=some (.string n)):=fun W1 X1 F1 hb=>⟨cell1 (Cap.row (Cap.bt hC hb) k0 r0),(saving_cells (Cap.row (Cap.bt hC hb) kS rS)).1,cell1 (Cap.row (Cap.bt hC hb) k1 r1)⟩
  obtain ⟨F2,e2,hm⟩:∃ F2 e2,createM F n=(F2,e2):=⟨_,_,rfl⟩
  rw [hm] at HQ ⊢
  simp only at HQ ⊢
  clear h hI hi hC hm k0 r0 k1 r1 kS rS z1
  show Calls _ _ #[.pointer (some ⟨b0,0,none⟩),.pointer (some ⟨b1,0,none⟩)] _ _
  go_enter Tryz.func141,Tryz.ntmps141
  go_upto_region 1 with fail
  have hcur:Below W.heap.size W W.drew:=(Below.refl _ W).drew
  have hk0:=HKP.out _ _ _ ((Bt.refl W g X F).after hcur)
  go_region_held3 (fun W1:World=>W1.cell? ⟨b0,0,none⟩=some (.pointer (some ⟨S,0,none⟩))∧W1.cell? ⟨S,0,none⟩=some (.pointer (some ⟨g,0,none⟩))∧W1.cell? ⟨b1,0,none⟩=some (.string n)) (first | exact hk0 | exact HKP.out _ _ _ hbt1) (first | (go_at_call 82; refine (show Calls _ _ _ _ _ from HQ.out _ hcur).mono ?_; rintro e w1 ⟨rfl,X2,hs2,hb2⟩; have hbt1:Bt W g X F w1 X2 F2:=Bt.pre hcur hb2))
  have HS2:Hid _:=hs2
  have HB2:Hid _:=hbt1
  clear hs2 hb2 hbt1 hk0 hcur HQ HKP
  go_wp2
  go_returns
  exact ⟨rfl,X2,HS2.out,HB2.out⟩
theorem eM_wr2 (args:Array Value) (w:World):(callFunc 142 args).run Tryz.prog w=.ok (.enter 142 args) w:=by kernel_rfl
set_option maxHeartbeats 1000000 in
theorem wr2_stp {B:World} {K:Nat → Prop} {S g b0 b1 b2:Nat} {n p:ByteArray} (hS:Sv B K S g) (k0:K b0) (r0:B.heap[b0]?=some (.cells #[ptr (some S)] 75)) (k1:K b1) (r1:B.heap[b1]?=some (.cells #[.string n] 9)) (k2:K b2) (r2:B.heap[b2]?=some (.cells #[.string p] 9)) (z1:n.size ≤ 140737488355328) (z2:p.size ≤ 140737488355328):StepV B K g ((142,#[],#[ptr (some b0),ptr (some b1),ptr (some b2)]),(fun G=>appendM G n p),1):=by
  refine ⟨eM_wr2,fun F i h=>h.append _ _,fun w0 W X F i h hI hi hC=>?_⟩
  simp only at hi ⊢
  have HQ:Hid (∀ W1,Below W.heap.size W W1 → Calls Tryz.prog 83 #[.pointer (some ⟨g,0,none⟩),.string n,.string p] W1 (CalP w0 W1 g X F (appendM F n p).1 (i + 1) (.int .i64 (appendM F n p).2))):=fun W1 hb=>append_cal (h.on hb) (by omega) z1 z2
  obtain ⟨kS,t0,keep,rS⟩:=hS
  have HKP:Hid (∀ W1 X1 F1,Bt W g X F W1 X1 F1 → W1.cell? ⟨b0,0,none⟩=some (.pointer (some ⟨S,0,none⟩))∧W1.cell? ⟨S,0,none⟩=some (.pointer (some ⟨g,0,none⟩))∧W1.cell? ⟨b1,0,none⟩=some (.string n)∧W1.cell? ⟨b2,0,none⟩=some (.string p)):=fun W1 X1 F1 hb=>⟨cell1 (Cap.row (Cap.bt hC hb) k0 r0),(saving_cells (Cap.row (Cap.bt hC hb) kS rS)).1,cell1 (Cap.row (Cap.bt hC hb) k1 r1),cell1 (Cap.row (Cap.bt hC hb) k2 r2)⟩
  obtain ⟨F2,e2,hm⟩:∃ F2 e2,appendM F n p=(F2,e2):=⟨_,_,rfl⟩
  rw [hm] at HQ ⊢
  simp only at HQ ⊢
  clear h hI hi hC hm k0 r0 k1 r1 k2 r2 kS rS z1 z2
  show Calls _ _ #[.pointer (some ⟨b0,0,none⟩),.pointer (some ⟨b1,0,none⟩),.pointer (some ⟨b2,0,none⟩)] _ _
  go_enter Tryz.func142,Tryz.ntmps142
  go_upto_region 1 with fail
  have hcur:Below W.heap.size W W.drew:=(Below.refl _ W).drew
  have hk0:=HKP.out _ _ _ ((Bt.refl W g X F).after hcur)
  go_region_held3 (fun W1:World=>W1.cell? ⟨b0,0,none⟩=some (.pointer (some ⟨S,0,none⟩))∧W1.cell? ⟨S,0,none⟩=some (.pointer (some ⟨g,0,none⟩))∧W1.cell? ⟨b1,0,none⟩=some (.string n)∧W1.cell? ⟨b2,0,none⟩=some (.string p)) (first | exact hk0 | exact HKP.out _ _ _ hbt1) (first | (go_at_call 83; refine (show Calls _ _ _ _ _ from HQ.out _ hcur).mono ?_; rintro e w1 ⟨rfl,X2,hs2,hb2⟩; have hbt1:Bt W g X F w1 X2 F2:=Bt.pre hcur hb2))
  have HS2:Hid _:=hs2
  have HB2:Hid _:=hbt1
  clear hs2 hb2 hbt1 hk0 hcur HQ HKP
  go_wp2
  go_returns
  exact ⟨rfl,X2,HS2.out,HB2.out⟩
theorem eM_wr3 (args:Array Value) (w:World):(callFunc 143 args).run Tryz.prog w=.ok (.enter 143 args) w:=by kernel_rfl
set_option maxHeartbeats 1000000 in
theorem wr3_stp {B:World} {K:Nat → Prop} {S g b0 b1:Nat} {n:ByteArray} (hS:Sv B K S g) (k0:K b0) (r0:B.heap[b0]?=some (.cells #[ptr (some S)] 75)) (k1:K b1) (r1:B.heap[b1]?=some (.cells #[.string n] 9)) (z1:n.size ≤ 140737488355328):StepV B K g ((143,#[],#[ptr (some b0),ptr (some b1)]),(fun G=>syncM G n),1):=by
  refine ⟨eM_wr3,fun F i h=>h.sync _,fun w0 W X F i h hI hi hC=>?_⟩
  simp only at hi ⊢
  have HQ:Hid (∀ W1,Below W.heap.size W W1 → Calls Tryz.prog 144 #[.pointer (some ⟨g,0,none⟩),.string n] W1 (CalP w0 W1 g X F (syncM F n).1 (i + 1) (.int .i64 (syncM F n).2))):=fun W1 hb=>sync_cal (h.on hb) (by omega) z1
  obtain ⟨kS,t0,keep,rS⟩:=hS
  have HKP:Hid (∀ W1 X1 F1,Bt W g X F W1 X1 F1 → W1.cell? ⟨b0,0,none⟩=some (.pointer (some ⟨S,0,none⟩))∧W1.cell? ⟨S,0,none⟩=some (.pointer (some ⟨g,0,none⟩))∧W1.cell? ⟨b1,0,none⟩=some (.string n)):=fun W1 X1 F1 hb=>⟨cell1 (Cap.row (Cap.bt hC hb) k0 r0),(saving_cells (Cap.row (Cap.bt hC hb) kS rS)).1,cell1 (Cap.row (Cap.bt hC hb) k1 r1)⟩
  obtain ⟨F2,e2,hm⟩:∃ F2 e2,syncM F n=(F2,e2):=⟨_,_,rfl⟩
  rw [hm] at HQ ⊢
  simp only at HQ ⊢
  clear h hI hi hC hm k0 r0 k1 r1 kS rS z1
  show Calls _ _ #[.pointer (some ⟨b0,0,none⟩),.pointer (some ⟨b1,0,none⟩)] _ _
  go_enter Tryz.func143,Tryz.ntmps143
  go_upto_region 1 with fail
  have hcur:Below W.heap.size W W.drew:=(Below.refl _ W).drew
  have hk0:=HKP.out _ _ _ ((Bt.refl W g X F).after hcur)
  go_region_held3 (fun W1:World=>W1.cell? ⟨b0,0,none⟩=some (.pointer (some ⟨S,0,none⟩))∧W1.cell? ⟨S,0,none⟩=some (.pointer (some ⟨g,0,none⟩))∧W1.cell? ⟨b1,0,none⟩=some (.string n)) (first | exact hk0 | exact HKP.out _ _ _ hbt1) (first | (go_at_call 144; refine (show Calls _ _ _ _ _ from HQ.out _ hcur).mono ?_; rintro e w1 ⟨rfl,X2,hs2,hb2⟩; have hbt1:Bt W g X F w1 X2 F2:=Bt.pre hcur hb2))
  have HS2:Hid _:=hs2
  have HB2:Hid _:=hbt1
  clear hs2 hb2 hbt1 hk0 hcur HQ HKP
  go_wp2
  go_returns
  exact ⟨rfl,X2,HS2.out,HB2.out⟩
theorem eM_ren1 (args:Array Value) (w:World):(callFunc 145 args).run Tryz.prog w=.ok (.enter 145 args) w:=by kernel_rfl
set_option maxHeartbeats 1000000 in
theorem ren1_stp {B:World} {K:Nat → Prop} {S g b0 b1 b2:Nat} {n t:ByteArray} (hS:Sv B K S g) (k0:K b0) (r0:B.heap[b0]?=some (.cells #[ptr (some S)] 75)) (k1:K b1) (r1:B.heap[b1]?=some (.cells #[.string n] 9)) (k2:K b2) (r2:B.heap[b2]?=some (.cells #[.string t] 9)) (z1:n.size ≤ 140737488355328) (z2:t.size ≤ 140737488355328):StepV B K g ((145,#[],#[ptr (some b0),ptr (some b1),ptr (some b2)]),(fun G=>renameM G n t),1):=by
  refine ⟨eM_ren1,fun F i h=>h.rename _ _,fun w0 W X F i h hI hi hC=>?_⟩
  simp only at hi ⊢
  have HQ:Hid (∀ W1,Below W.heap.size W W1 → Calls Tryz.prog 146 #[.pointer (some ⟨g,0,none⟩),.string n,.string t] W1 (CalP w0 W1 g X F (renameM F n t).1 (i + 1) (.int .i64 (renameM F n t).2))):=fun W1 hb=>rename_cal (h.on hb) (by omega) z1 z2
  obtain ⟨kS,t0,keep,rS⟩:=hS
  have HKP:Hid (∀ W1 X1 F1,Bt W g X F W1 X1 F1 → W1.cell? ⟨b0,0,none⟩=some (.pointer (some ⟨S,0,none⟩))∧W1.cell? ⟨S,0,none⟩=some (.pointer (some ⟨g,0,none⟩))∧W1.cell? ⟨b1,0,none⟩=some (.string n)∧W1.cell? ⟨b2,0,none⟩=some (.string t)):=fun W1 X1 F1 hb=>⟨cell1 (Cap.row (Cap.bt hC hb) k0 r0),(saving_cells (Cap.row (Cap.bt hC hb) kS rS)).1,cell1 (Cap.row (Cap.bt hC hb) k1 r1),cell1 (Cap.row (Cap.bt hC hb) k2 r2)⟩
  obtain ⟨F2,e2,hm⟩:∃ F2 e2,renameM F n t=(F2,e2):=⟨_,_,rfl⟩
  rw [hm] at HQ ⊢
  simp only at HQ ⊢
  clear h hI hi hC hm k0 r0 k1 r1 k2 r2 kS rS z1 z2
  show Calls _ _ #[.pointer (some ⟨b0,0,none⟩),.pointer (some ⟨b1,0,none⟩),.pointer (some ⟨b2,0,none⟩)] _ _
  go_enter Tryz.func145,Tryz.ntmps145
  go_upto_region 1 with fail
  have hcur:Below W.heap.size W W.drew:=(Below.refl _ W).drew
  have hk0:=HKP.out _ _ _ ((Bt.refl W g X F).after hcur)
  go_region_held3 (fun W1:World=>W1.cell? ⟨b0,0,none⟩=some (.pointer (some ⟨S,0,none⟩))∧W1.cell? ⟨S,0,none⟩=some (.pointer (some ⟨g,0,none⟩))∧W1.cell? ⟨b1,0,none⟩=some (.string n)∧W1.cell? ⟨b2,0,none⟩=some (.string t)) (first | exact hk0 | exact HKP.out _ _ _ hbt1) (first | (go_at_call 146; refine (show Calls _ _ _ _ _ from HQ.out _ hcur).mono ?_; rintro e w1 ⟨rfl,X2,hs2,hb2⟩; have hbt1:Bt W g X F w1 X2 F2:=Bt.pre hcur hb2))
  have HS2:Hid _:=hs2
  have HB2:Hid _:=hbt1
  clear hs2 hb2 hbt1 hk0 hcur HQ HKP
  go_wp2
  go_returns
  exact ⟨rfl,X2,HS2.out,HB2.out⟩
theorem eM_rem1 (args:Array Value) (w:World):(callFunc 140 args).run Tryz.prog w=.ok (.enter 140 args) w:=by kernel_rfl
set_option maxHeartbeats 1000000 in
theorem rem1_stp {B:World} {K:Nat → Prop} {S g b0 b1:Nat} {n:ByteArray} (hS:Sv B K S g) (k0:K b0) (r0:B.heap[b0]?=some (.cells #[ptr (some S)] 75)) (k1:K b1) (r1:B.heap[b1]?=some (.cells #[.string n] 9)) (z1:n.size ≤ 140737488355328):StepV B K g ((140,#[],#[ptr (some b0),ptr (some b1)]),(fun G=>removeM G n),1):=by
  refine ⟨eM_rem1,fun F i h=>h.remove _,fun w0 W X F i h hI hi hC=>?_⟩
  simp only at hi ⊢
  have HQ:Hid (∀ W1,Below W.heap.size W W1 → Calls Tryz.prog 73 #[.pointer (some ⟨g,0,none⟩),.string n] W1 (CalP w0 W1 g X F (removeM F n).1 (i + 1) (.int .i64 (removeM F n).2))):=fun W1 hb=>remove_cal (h.on hb) (by omega) z1
  obtain ⟨kS,t0,keep,rS⟩:=hS
  have HKP:Hid (∀ W1 X1 F1,Bt W g X F W1 X1 F1 → W1.cell? ⟨b0,0,none⟩=some (.pointer (some ⟨S,0,none⟩))∧W1.cell? ⟨S,0,none⟩=some (.pointer (some ⟨g,0,none⟩))∧W1.cell? ⟨b1,0,none⟩=some (.string n)):=fun W1 X1 F1 hb=>⟨cell1 (Cap.row (Cap.bt hC hb) k0 r0),(saving_cells (Cap.row (Cap.bt hC hb) kS rS)).1,cell1 (Cap.row (Cap.bt hC hb) k1 r1)⟩
  obtain ⟨F2,e2,hm⟩:∃ F2 e2,removeM F n=(F2,e2):=⟨_,_,rfl⟩
  rw [hm] at HQ ⊢
  simp only at HQ ⊢
  clear h hI hi hC hm k0 r0 k1 r1 kS rS z1
  show Calls _ _ #[.pointer (some ⟨b0,0,none⟩),.pointer (some ⟨b1,0,none⟩)] _ _
  go_enter Tryz.func140,Tryz.ntmps140
  go_upto_region 1 with fail
  have hcur:Below W.heap.size W W.drew:=(Below.refl _ W).drew
  have hk0:=HKP.out _ _ _ ((Bt.refl W g X F).after hcur)
  go_region_held3 (fun W1:World=>W1.cell? ⟨b0,0,none⟩=some (.pointer (some ⟨S,0,none⟩))∧W1.cell? ⟨S,0,none⟩=some (.pointer (some ⟨g,0,none⟩))∧W1.cell? ⟨b1,0,none⟩=some (.string n)) (first | exact hk0 | exact HKP.out _ _ _ hbt1) (first | (go_at_call 73; refine (show Calls _ _ _ _ _ from HQ.out _ hcur).mono ?_; rintro e w1 ⟨rfl,X2,hs2,hb2⟩; have hbt1:Bt W g X F w1 X2 F2:=Bt.pre hcur hb2))
  have HS2:Hid _:=hs2
  have HB2:Hid _:=hbt1
  clear hs2 hb2 hbt1 hk0 hcur HQ HKP
  go_wp2
  go_returns
  exact ⟨rfl,X2,HS2.out,HB2.out⟩
theorem eM_tid1 (args:Array Value) (w:World):(callFunc 72 args).run Tryz.prog w=.ok (.enter 72 args) w:=by kernel_rfl
set_option maxHeartbeats 1000000 in
theorem tid1_stp {B:World} {K:Nat → Prop} {g b0 b1:Nat} {n:ByteArray} (k0:K b0) (r0:B.heap[b0]?=some (.cells #[ptr (some g)] 25)) (k1:K b1) (r1:B.heap[b1]?=some (.cells #[.string n] 9)) (z1:n.size ≤ 140737488355328):StepV B K g ((72,#[],#[ptr (some b0),ptr (some b1)]),(fun G=>removeM G n),1):=by
  refine ⟨eM_tid1,fun F i h=>h.remove _,fun w0 W X F i h hI hi hC=>?_⟩
  simp only at hi ⊢
  have HQ:Hid (∀ W1,Below W.heap.size W W1 → Calls Tryz.prog 73 #[.pointer (some ⟨g,0,none⟩),.string n] W1 (CalP w0 W1 g X F (removeM F n).1 (i + 1) (.int .i64 (removeM F n).2))):=fun W1 hb=>remove_cal (h.on hb) (by omega) z1
  have HKP:Hid (∀ W1 X1 F1,Bt W g X F W1 X1 F1 → W1.cell? ⟨b0,0,none⟩=some (.pointer (some ⟨g,0,none⟩))∧W1.cell? ⟨b1,0,none⟩=some (.string n)):=fun W1 X1 F1 hb=>⟨cell1 (Cap.row (Cap.bt hC hb) k0 r0),cell1 (Cap.row (Cap.bt hC hb) k1 r1)⟩
  obtain ⟨F2,e2,hm⟩:∃ F2 e2,removeM F n=(F2,e2):=⟨_,_,rfl⟩
  rw [hm] at HQ ⊢
  simp only at HQ ⊢
  clear h hI hi hC hm k0 r0 k1 r1 z1
  show Calls _ _ #[.pointer (some ⟨b0,0,none⟩),.pointer (some ⟨b1,0,none⟩)] _ _
  go_enter Tryz.func72,Tryz.ntmps72
  obtain ⟨c0,c1⟩:=HKP.out _ _ _ (Bt.refl W g X F)
  have HQ1:Hid _:=HQ.out W (Below.refl _ _)
  clear HQ
  go_wp2_with fail
  refine (show Calls _ _ _ _ _ from HQ1.out).mono ?_
  rintro e w1 ⟨rfl,X2,hs2,hbt1⟩
  have HS2:Hid _:=hs2
  have HB2:Hid _:=hbt1
  clear hs2 hbt1 HKP HQ1
  go_wp2
  go_returns
  exact ⟨rfl,X2,HS2.out,HB2.out⟩
end Go.Proofs.YtbgbmfmgdgalbaaGreatDoor
