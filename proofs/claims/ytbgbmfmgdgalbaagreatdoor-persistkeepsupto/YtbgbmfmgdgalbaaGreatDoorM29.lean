import Derived.Test.YtbgbmfmgdgalbaaGreatDoorM28
namespace Go.Proofs.YtbgbmfmgdgalbaaGreatDoor
open Go.RowKit Go.Maps
set_option linter.unusedVariables false
set_option linter.unusedSimpArgs false
theorem sync_cal {w0 W:World} {g i:Nat} {X:Gh} {F:Fs} {n:ByteArray} (h:St w0 W g X F i) (hi:i < 3298534883000) (hn:n.size ≤ 140737488355328):Calls Tryz.prog 144 #[ptr (some g),.string n] W (CalP w0 W g X F (syncM F n).1 (i + 1) (.int .i64 (syncM F n).2)):=
  (Sync_any goDownC g X F n hn W h.fs (h.sm (by omega)) (by have:=h.st; omega) h.pk).mono fun e w' hh=>cal_of (bc_of h (syncM_gp _ F n) hh.1 hh.2) (Nat.le_refl _)
theorem remove_cal {w0 W:World} {g i:Nat} {X:Gh} {F:Fs} {n:ByteArray} (h:St w0 W g X F i) (hi:i < 3298534883000) (hn:n.size ≤ 140737488355328):Calls Tryz.prog 73 #[ptr (some g),.string n] W (CalP w0 W g X F (removeM F n).1 (i + 1) (.int .i64 (removeM F n).2)):=
  (Remove_any goDownC g X F n hn W h.fs (h.sm (by omega)) (by have:=h.st; omega) h.pk).mono fun e w' hh=>cal_of (bc_of h (removeM_gp _ F n) hh.1 hh.2) (Nat.le_refl _)
theorem rename_cal {w0 W:World} {g i:Nat} {X:Gh} {F:Fs} {n t:ByteArray} (h:St w0 W g X F i) (hi:i < 3298534883000) (hn:n.size ≤ 140737488355328) (ht:t.size ≤ 140737488355328):Calls Tryz.prog 146 #[ptr (some g),.string n,.string t] W (CalP w0 W g X F (renameM F n t).1 (i + 1) (.int .i64 (renameM F n t).2)):=
  (Rename_any goDownC g X F n t hn ht W h.fs (h.sm (by omega)) (by have:=h.st; omega) h.pk).mono fun e w' hh=>cal_of (bc_of h (renameM_gp _ F n t) hh.1 hh.2) (Nat.le_refl _)
theorem syncDir_cal {w0 W:World} {g i:Nat} {X:Gh} {F:Fs} (h:St w0 W g X F i) (hi:i < 3298534883000):Calls Tryz.prog 67 #[ptr (some g)] W (CalP w0 W g X F (syncDirM F).1 (i + 1) (.int .i64 (syncDirM F).2)):=
  (SyncDir_any goDownC g X F W h.fs (h.sm (by omega)) (by have:=h.st; omega) h.pk).mono fun e w' hh=>cal_of (bc_of h (syncDirM_gp _ F) hh.1 hh.2) (Nat.le_refl _)
def Sv (B:World) (K:Nat → Prop) (S g:Nat):Prop:=K S∧∃ t keep,B.heap[S]?=some (.cells #[ptr (some g),.string t,.int .i64 keep] 77)
theorem saving_cells {W:World} {S g:Nat} {t:ByteArray} {keep:Int} (h:W.heap[S]?=some (.cells #[ptr (some g),.string t,.int .i64 keep] 77)):W.cell? ⟨S,0,none⟩=some (ptr (some g))∧W.cell? ⟨S,1,none⟩=some (.string t)∧W.cell? ⟨S,2,none⟩=some (.int .i64 keep):=by
  refine ⟨?_,?_,?_⟩ <;> rw [cell_of_row _ _ _ _ _ _ h] <;> rfl
theorem syncDir_stp (B:World) (K:Nat → Prop) (g:Nat):StepV B K g ((67,#[ptr (some g)],#[]),syncDirM,1):=
  ⟨fun args w=>by kernel_rfl,fun F i h=>h.syncDir,fun w0 W X F i h hI hi hC=>syncDir_cal h (by simp only at hi; omega)⟩
theorem eM_wr1 (args:Array Value) (w:World):(callFunc 141 args).run Tryz.prog w=.ok (.enter 141 args) w:=by kernel_rfl
set_option maxHeartbeats 1000000 in
theorem wr1_stp {B:World} {K:Nat → Prop} {S g b0 b1:Nat} {n:ByteArray} (hS:Sv B K S g) (k0:K b0) (r0:B.heap[b0]?=some (.cells #[ptr (some S)] 75)) (k1:K b1) (r1:B.heap[b1]?=some (.cells #[.string n] 9)) (z1:n.size ≤ 140737488355328):StepV B K g ((141,#[],#[ptr (some b0),ptr (some b1)]),(fun G=>createM G n),1):=by
  refine ⟨eM_wr1,fun F i h=>h.create _,fun w0 W X F i h hI hi hC=>?_⟩
  simp only at hi ⊢
  have HQ:Hid (∀ W1,Below W.heap.size W W1 → Calls Tryz.prog 82 #[.pointer (some ⟨g,0,none⟩),.string n] W1 (CalP w0 W1 g X F (createM F n).1 (i + 1) (.int .i64 (createM F n).2))):=fun W1 hb=>create_cal (h.on hb) (by omega) z1
  obtain ⟨kS,t0,keep,rS⟩:=hS
  have HKP:Hid (∀ W1 X1 F1,Bt W g X F W1 X1 F1 → W1.cell? ⟨b0,0,none⟩=some (.pointer (some ⟨S,0,none⟩))∧W1.cell? ⟨S,0,none⟩=some (.pointer (some ⟨g,0,none⟩))∧W1.cell? ⟨b1,0,none⟩=some (.string n)):=fun W1 X1 F1 hb=>⟨cell1 (Cap.row (Cap.bt hC hb) k0 r0),(saving_cells (Cap.row (Cap.bt hC hb) kS rS)).1,cell1 (Cap.row (Cap.bt hC hb) k1 r1)⟩
  obtain ⟨F2,e2,hm⟩:∃ F2 e2,createM F n=(F2,e2):=⟨_,_,rfl⟩
  rw [hm] at HQ ⊢
  simp only at HQ ⊢
  clear h hI hi hC hm k0 r0 k1 r1 kS rS z1
  show Calls _ _ #[.pointer (some ⟨b0,0,none⟩),.pointer (some ⟨b1,0,none⟩)] _ _
  go_enter Tryz.func141,Tryz.ntmps141
  go_upto_region 1 with fail
  have hcur:Below W.heap.size W W.drew:=(Below.refl _ W).drew
  have hk0:=HKP.out _ _ _ ((Bt.refl W g X F).after hcur)
  go_region_held3 (fun W1:World=>W1.cell? ⟨b0,0,none⟩=some (.pointer (some ⟨S,0,none⟩))∧W1.cell? ⟨S,0,none⟩=some (.pointer (some ⟨g,0,none⟩))∧W1.cell? ⟨b1,0,none⟩=some (.string n)) (first | exact hk0 | exact HKP.out _ _ _ hbt1) (first | (go_at_call 82; refine (show Calls _ _ _ _ _ from HQ.out _ hcur).mono ?_; rintro e w1 ⟨rfl,X2,hs2,hb2⟩; have hbt1:Bt W g X F w1 X2 F2:=Bt.pre hcur hb2))
  have HS2:Hid _:=hs2
  have HB2:Hid _:=hbt1
  clear hs2 hb2 hbt1 hk0 hcur HQ HKP
  go_wp2
  go_returns
  exact ⟨rfl,X2,HS2.out,HB2.out⟩
theorem eM_wr2 (args:Array Value) (w:World):(callFunc 142 args).run Tryz.prog w=.ok (.enter 142 args) w:=by kernel_rfl
set_option maxHeartbeats 1000000 in
theorem wr2_stp {B:World} {K:Nat → Prop} {S g b0 b1 b2:Nat} {n p:ByteArray} (hS:Sv B K S g) (k0:K b0) (r0:B.heap[b0]?=some (.cells #[ptr (some S)] 75)) (k1:K b1) (r1:B.heap[b1]?=some (.cells #[.string n] 9)) (k2:K b2) (r2:B.heap[b2]?=some (.cells #[.string p] 9)) (z1:n.size ≤ 140737488355328) (z2:p.size ≤ 140737488355328):StepV B K g ((142,#[],#[ptr (some b0),ptr (some b1),ptr (some b2)]),(fun G=>appendM G n p),1):=by
  refine ⟨eM_wr2,fun F i h=>h.append _ _,fun w0 W X F i h hI hi hC=>?_⟩
  simp only at hi ⊢
  have HQ:Hid (∀ W1,Below W.heap.size W W1 → Calls Tryz.prog 83 #[.pointer (some ⟨g,0,none⟩),.string n,.string p] W1 (CalP w0 W1 g X F (appendM F n p).1 (i + 1) (.int .i64 (appendM F n p).2))):=fun W1 hb=>append_cal (h.on hb) (by omega) z1 z2
  obtain ⟨kS,t0,keep,rS⟩:=hS
  have HKP:Hid (∀ W1 X1 F1,Bt W g X F W1 X1 F1 → W1.cell? ⟨b0,0,none⟩=some (.pointer (some ⟨S,0,none⟩))∧W1.cell? ⟨S,0,none⟩=some (.pointer (some ⟨g,0,none⟩))∧W1.cell? ⟨b1,0,none⟩=some (.string n)∧W1.cell? ⟨b2,0,none⟩=some (.string p)):=fun W1 X1 F1 hb=>⟨cell1 (Cap.row (Cap.bt hC hb) k0 r0),(saving_cells (Cap.row (Cap.bt hC hb) kS rS)).1,cell1 (Cap.row (Cap.bt hC hb) k1 r1),cell1 (Cap.row (Cap.bt hC hb) k2 r2)⟩
  obtain ⟨F2,e2,hm⟩:∃ F2 e2,appendM F n p=(F2,e2):=⟨_,_,rfl⟩
  rw [hm] at HQ ⊢
  simp only at HQ ⊢
  clear h hI hi hC hm k0 r0 k1 r1 k2 r2 kS rS z1 z2
  show Calls _ _ #[.pointer (some ⟨b0,0,none⟩),.pointer (some ⟨b1,0,none⟩),.pointer (some ⟨b2,0,none⟩)] _ _
  go_enter Tryz.func142,Tryz.ntmps142
  go_upto_region 1 with fail
  have hcur:Below W.heap.size W W.drew:=(Below.refl _ W).drew
  have hk0:=HKP.out _ _ _ ((Bt.refl W g X F).after hcur)
  go_region_held3 (fun W1:World=>W1.cell? ⟨b0,0,none⟩=some (.pointer (some ⟨S,0,none⟩))∧W1.cell? ⟨S,0,none⟩=some (.pointer (some ⟨g,0,none⟩))∧W1.cell? ⟨b1,0,none⟩=some (.string n)∧W1.cell? ⟨b2,0,none⟩=some (.string p)) (first | exact hk0 | exact HKP.out _ _ _ hbt1) (first | (go_at_call 83; refine (show Calls _ _ _ _ _ from HQ.out _ hcur).mono ?_; rintro e w1 ⟨rfl,X2,hs2,hb2⟩; have hbt1:Bt W g X F w1 X2 F2:=Bt.pre hcur hb2))
  have HS2:Hid _:=hs2
  have HB2:Hid _:=hbt1
  clear hs2 hb2 hbt1 hk0 hcur HQ HKP
  go_wp2
  go_returns
  exact ⟨rfl,X2,HS2.out,HB2.out⟩
theorem eM_wr3 (args:Array Value) (w:World):(callFunc 143 args).run Tryz.prog w=.ok (.enter 143 args) w:=by kernel_rfl
set_option maxHeartbeats 1000000 in
theorem wr3_stp {B:World} {K:Nat → Prop} {S g b0 b1:Nat} {n:ByteArray} (hS:Sv B K S g) (k0:K b0) (r0:B.heap[b0]?=some (.cells #[ptr (some S)] 75)) (k1:K b1) (r1:B.heap[b1]?=some (.cells #[.string n] 9)) (z1:n.size ≤ 140737488355328):StepV B K g ((143,#[],#[ptr (some b0),ptr (some b1)]),(fun G=>syncM G n),1):=by
  refine ⟨eM_wr3,fun F i h=>h.sync _,fun w0 W X F i h hI hi hC=>?_⟩
  simp only at hi ⊢
  have HQ:Hid (∀ W1,Below W.heap.size W W1 → Calls Tryz.prog 144 #[.pointer (some ⟨g,0,none⟩),.string n] W1 (CalP w0 W1 g X F (syncM F n).1 (i + 1) (.int .i64 (syncM F n).2))):=fun W1 hb=>sync_cal (h.on hb) (by omega) z1
  obtain ⟨kS,t0,keep,rS⟩:=hS
  have HKP:Hid (∀ W1 X1 F1,Bt W g X F W1 X1 F1 → W1.cell? ⟨b0,0,none⟩=some (.pointer (some ⟨S,0,none⟩))∧W1.cell? ⟨S,0,none⟩=some (.pointer (some ⟨g,0,none⟩))∧W1.cell? ⟨b1,0,none⟩=some (.string n)):=fun W1 X1 F1 hb=>⟨cell1 (Cap.row (Cap.bt hC hb) k0 r0),(saving_cells (Cap.row (Cap.bt hC hb) kS rS)).1,cell1 (Cap.row (Cap.bt hC hb) k1 r1)⟩
  obtain ⟨F2,e2,hm⟩:∃ F2 e2,syncM F n=(F2,e2):=⟨_,_,rfl⟩
  rw [hm] at HQ ⊢
  simp only at HQ ⊢
  clear h hI hi hC hm k0 r0 k1 r1 kS rS z1
  show Calls _ _ #[.pointer (some ⟨b0,0,none⟩),.pointer (some ⟨b1,0,none⟩)] _ _
  go_enter Tryz.func143,Tryz.ntmps143
  go_upto_region 1 with fail
  have hcur:Below W.heap.size W W.drew:=(Below.refl _ W).drew
  have hk0:=HKP.out _ _ _ ((Bt.refl W g X F).after hcur)
  go_region_held3 (fun W1:World=>W1.cell? ⟨b0,0,none⟩=some (.pointer (some ⟨S,0,none⟩))∧W1.cell? ⟨S,0,none⟩=some (.pointer (some ⟨g,0,none⟩))∧W1.cell? ⟨b1,0,none⟩=some (.string n)) (first | exact hk0 | exact HKP.out _ _ _ hbt1) (first | (go_at_call 144; refine (show Calls _ _ _ _ _ from HQ.out _ hcur).mono ?_; rintro e w1 ⟨rfl,X2,hs2,hb2⟩; have hbt1:Bt W g X F w1 X2 F2:=Bt.pre hcur hb2))
  have HS2:Hid _:=hs2
  have HB2:Hid _:=hbt1
  clear hs2 hb2 hbt1 hk0 hcur HQ HKP
  go_wp2
  go_returns
  exact ⟨rfl,X2,HS2.out,HB2.out⟩
theorem eM_ren1 (args:Array Value) (w:World):(callFunc 145 args).run Tryz.prog w=.ok (.enter 145 args) w:=by kernel_rfl
set_option maxHeartbeats 1000000 in
theorem ren1_stp {B:World} {K:Nat → Prop} {S g b0 b1 b2:Nat} {n t:ByteArray} (hS:Sv B K S g) (k0:K b0) (r0:B.heap[b0]?=some (.cells #[ptr (some S)] 75)) (k1:K b1) (r1:B.heap[b1]?=some (.cells #[.string n] 9)) (k2:K b2) (r2:B.heap[b2]?=some (.cells #[.string t] 9)) (z1:n.size ≤ 140737488355328) (z2:t.size ≤ 140737488355328):StepV B K g ((145,#[],#[ptr (some b0),ptr (some b1),ptr (some b2)]),(fun G=>renameM G n t),1):=by
  refine ⟨eM_ren1,fun F i h=>h.rename _ _,fun w0 W X F i h hI hi hC=>?_⟩
  simp only at hi ⊢
  have HQ:Hid (∀ W1,Below W.heap.size W W1 → Calls Tryz.prog 146 #[.pointer (some ⟨g,0,none⟩),.string n,.string t] W1 (CalP w0 W1 g X F (renameM F n t).1 (i + 1) (.int .i64 (renameM F n t).2))):=fun W1 hb=>rename_cal (h.on hb) (by omega) z1 z2
  obtain ⟨kS,t0,keep,rS⟩:=hS
  have HKP:Hid (∀ W1 X1 F1,Bt W g X F W1 X1 F1 → W1.cell? ⟨b0,0,none⟩=some (.pointer (some ⟨S,0,none⟩))∧W1.cell? ⟨S,0,none⟩=some (.pointer (some ⟨g,0,none⟩))∧W1.cell? ⟨b1,0,none⟩=some (.string n)∧W1.cell? ⟨b2,0,none⟩=some (.string t)):=fun W1 X1 F1 hb=>⟨cell1 (Cap.row (Cap.bt hC hb) k0 r0),(saving_cells (Cap.row (Cap.bt hC hb) kS rS)).1,cell1 (Cap.row (Cap.bt hC hb) k1 r1),cell1 (Cap.row (Cap.bt hC hb) k2 r2)⟩
  obtain ⟨F2,e2,hm⟩:∃ F2 e2,renameM F n t=(F2,e2):=⟨_,_,rfl⟩
  rw [hm] at HQ ⊢
  simp only at HQ ⊢
  clear h hI hi hC hm k0 r0 k1 r1 k2 r2 kS rS z1 z2
  show Calls _ _ #[.pointer (some ⟨b0,0,none⟩),.pointer (some ⟨b1,0,none⟩),.pointer (some ⟨b2,0,none⟩)] _ _
  go_enter Tryz.func145,Tryz.ntmps145
  go_upto_region 1 with fail
  have hcur:Below W.heap.size W W.drew:=(Below.refl _ W).drew
  have hk0:=HKP.out _ _ _ ((Bt.refl W g X F).after hcur)
  go_region_held3 (fun W1:World=>W1.cell? ⟨b0,0,none⟩=some (.pointer (some ⟨S,0,none⟩))∧W1.cell? ⟨S,0,none⟩=some (.pointer (some ⟨g,0,none⟩))∧W1.cell? ⟨b1,0,none⟩=some (.string n)∧W1.cell? ⟨b2,0,none⟩=some (.string t)) (first | exact hk0 | exact HKP.out _ _ _ hbt1) (first | (go_at_call 146; refine (show Calls _ _ _ _ _ from HQ.out _ hcur).mono ?_; rintro e w1 ⟨rfl,X2,hs2,hb2⟩; have hbt1:Bt W g X F w1 X2 F2:=Bt.pre hcur hb2))
  have HS2:Hid _:=hs2
  have HB2:Hid _:=hbt1
  clear hs2 hb2 hbt1 hk0 hcur HQ HKP
  go_wp2
  go_returns
  exact ⟨rfl,X2,HS2.out,HB2.out⟩
theorem eM_rem1 (args:Array Value) (w:World):(callFunc 140 args).run Tryz.prog w=.ok (.enter 140 args) w:=by kernel_rfl
set_option maxHeartbeats 1000000 in
theorem rem1_stp {B:World} {K:Nat → Prop} {S g b0 b1:Nat} {n:ByteArray} (hS:Sv B K S g) (k0:K b0) (r0:B.heap[b0]?=some (.cells #[ptr (some S)] 75)) (k1:K b1) (r1:B.heap[b1]?=some (.cells #[.string n] 9)) (z1:n.size ≤ 140737488355328):StepV B K g ((140,#[],#[ptr (some b0),ptr (some b1)]),(fun G=>removeM G n),1):=by
  refine ⟨eM_rem1,fun F i h=>h.remove _,fun w0 W X F i h hI hi hC=>?_⟩
  simp only at hi ⊢
  have HQ:Hid (∀ W1,Below W.heap.size W W1 → Calls Tryz.prog 73 #[.pointer (some ⟨g,0,none⟩),.string n] W1 (CalP w0 W1 g X F (removeM F n).1 (i + 1) (.int .i64 (removeM F n).2))):=fun W1 hb=>remove_cal (h.on hb) (by omega) z1
  obtain ⟨kS,t0,keep,rS⟩:=hS
  have HKP:Hid (∀ W1 X1 F1,Bt W g X F W1 X1 F1 → W1.cell? ⟨b0,0,none⟩=some (.pointer (some ⟨S,0,none⟩))∧W1.cell? ⟨S,0,none⟩=some (.pointer (some ⟨g,0,none⟩))∧W1.cell? ⟨b1,0,none⟩=some (.string n)):=fun W1 X1 F1 hb=>⟨cell1 (Cap.row (Cap.bt hC hb) k0 r0),(saving_cells (Cap.row (Cap.bt hC hb) kS rS)).1,cell1 (Cap.row (Cap.bt hC hb) k1 r1)⟩
  obtain ⟨F2,e2,hm⟩:∃ F2 e2,removeM F n=(F2,e2):=⟨_,_,rfl⟩
  rw [hm] at HQ ⊢
  simp only at HQ ⊢
  clear h hI hi hC hm k0 r0 k1 r1 kS rS z1
  show Calls _ _ #[.pointer (some ⟨b0,0,none⟩),.pointer (some ⟨b1,0,none⟩)] _ _
  go_enter Tryz.func140,Tryz.ntmps140
  go_upto_region 1 with fail
  have hcur:Below W.heap.size W W.drew:=(Below.refl _ W).drew
  have hk0:=HKP.out _ _ _ ((Bt.refl W g X F).after hcur)
  go_region_held3 (fun W1:World=>W1.cell? ⟨b0,0,none⟩=some (.pointer (some ⟨S,0,none⟩))∧W1.cell? ⟨S,0,none⟩=some (.pointer (some ⟨g,0,none⟩))∧W1.cell? ⟨b1,0,none⟩=some (.string n)) (first | exact hk0 | exact HKP.out _ _ _ hbt1) (first | (go_at_call 73; refine (show Calls _ _ _ _ _ from HQ.out _ hcur).mono ?_; rintro e w1 ⟨rfl,X2,hs2,hb2⟩; have hbt1:Bt W g X F w1 X2 F2:=Bt.pre hcur hb2))
  have HS2:Hid _:=hs2
  have HB2:Hid _:=hbt1
  clear hs2 hb2 hbt1 hk0 hcur HQ HKP
  go_wp2
  go_returns
  exact ⟨rfl,X2,HS2.out,HB2.out⟩
theorem eM_tid1 (args:Array Value) (w:World):(callFunc 72 args).run Tryz.prog w=.ok (.enter 72 args) w:=by kernel_rfl
set_option maxHeartbeats 1000000 in
theorem tid1_stp {B:World} {K:Nat → Prop} {g b0 b1:Nat} {n:ByteArray} (k0:K b0) (r0:B.heap[b0]?=some (.cells #[ptr (some g)] 25)) (k1:K b1) (r1:B.heap[b1]?=some (.cells #[.string n] 9)) (z1:n.size ≤ 140737488355328):StepV B K g ((72,#[],#[ptr (some b0),ptr (some b1)]),(fun G=>removeM G n),1):=by
  refine ⟨eM_tid1,fun F i h=>h.remove _,fun w0 W X F i h hI hi hC=>?_⟩
  simp only at hi ⊢
  have HQ:Hid (∀ W1,Below W.heap.size W W1 → Calls Tryz.prog 73 #[.pointer (some ⟨g,0,none⟩),.string n] W1 (CalP w0 W1 g X F (removeM F n).1 (i + 1) (.int .i64 (removeM F n).2))):=fun W1 hb=>remove_cal (h.on hb) (by omega) z1
  have HKP:Hid (∀ W1 X1 F1,Bt W g X F W1 X1 F1 → W1.cell? ⟨b0,0,none⟩=some (.pointer (some ⟨g,0,none⟩))∧W1.cell? ⟨b1,0,none⟩=some (.string n)):=fun W1 X1 F1 hb=>⟨cell1 (Cap.row (Cap.bt hC hb) k0 r0),cell1 (Cap.row (Cap.bt hC hb) k1 r1)⟩
  obtain ⟨F2,e2,hm⟩:∃ F2 e2,removeM F n=(F2,e2):=⟨_,_,rfl⟩
  rw [hm] at HQ ⊢
  simp only at HQ ⊢
  clear h hI hi hC hm k0 r0 k1 r1 z1
  show Calls _ _ #[.pointer (some ⟨b0,0,none⟩),.pointer (some ⟨b1,0,none⟩)] _ _
  go_enter Tryz.func72,Tryz.ntmps72
  obtain ⟨c0,c1⟩:=HKP.out _ _ _ (Bt.refl W g X F)
  have HQ1:Hid _:=HQ.out W (Below.refl _ _)
  clear HQ
  go_wp2_with fail
  refine (show Calls _ _ _ _ _ from HQ1.out).mono ?_
  rintro e w1 ⟨rfl,X2,hs2,hbt1⟩
  have HS2:Hid _:=hs2
  have HB2:Hid _:=hbt1
  clear hs2 hbt1 HKP HQ1
  go_wp2
  go_returns
  exact ⟨rfl,X2,HS2.out,HB2.out⟩
end Go.Proofs.YtbgbmfmgdgalbaaGreatDoor
namespace Go.Proofs.YtbgbmfmgdgalbaaGreatDoor
open Go.RowKit Go.Maps
set_option linter.unusedVariables false
set_option linter.unusedSimpArgs false
theorem memB_no {l:List ByteArray} {n:ByteArray} (h:¬ n ∈ l):memB l n=false:=by
  cases hb:memB l n with
  | false=>rfl
  | true=>exact absurd (memB_iff.1 hb) h
theorem there_mem {F:Fs} {n:ByteArray} {N:Nat} (hd:F.down=false) (hk:DOk F.dir N):thereM F n=memB (F.dir.map (·.1)) n:=by
  by_cases hm:n ∈ F.dir.map (·.1)
  · rw [memB_iff.2 hm]
    obtain ⟨x,hx,rfl⟩:=List.mem_map.1 hm
    refine there_iff.2 (has_zero.2 ⟨hd,hk.nam x hx,fun hf=>?_⟩)
    have h1:(F.dir.find? fun y=>decide (y.1=x.1)).isSome=true:=List.find?_isSome.2 ⟨x,hx,by simp⟩
    obtain ⟨y,hy⟩:=Option.isSome_iff_exists.1 h1
    have h2:=hk.ge y (List.mem_of_find?_eq_some hy)
    have h3:findM F.dir x.1=y.2:=by unfold findM; rw [hy]; rfl
    omega
  · rw [memB_no hm]
    rcases ht:thereM F n with _ | _
    · rfl
    · obtain ⟨_,_,hf⟩:=has_zero.1 (there_iff.1 ht)
      obtain ⟨x,hx,e,_⟩:=findM_mem hf
      exact absurd (List.mem_map.2 ⟨x,hx,e⟩) hm
theorem Inv.ifTh {n:ByteArray} {m:Fs → Fs × Int} {k:Nat} (hm:∀ F i,Inv F i → Inv (m F).1 (i + k)) (F:Fs) (i:Nat) (h:Inv F i):Inv (ifThM n m F).1 (i + k):=by
  unfold ifThM
  split
  · exact h.more (by omega)
  · split
    · exact hm F i h
    · exact h.more (by omega)
theorem eM_ift1 (args:Array Value) (w:World):(callFunc 138 args).run Tryz.prog w=.ok (.enter 138 args) w:=by kernel_rfl
set_option maxHeartbeats 4000000 in
theorem ift1_stp {B:World} {K:Nat → Prop} {S g b0 b1 b2:Nat} {n:ByteArray} {s:Sp} (hS:Sv B K S g) (k0:K b0) (r0:B.heap[b0]?=some (.cells #[ptr (some S)] 75)) (k1:K b1) (r1:B.heap[b1]?=some (.cells #[.string n] 9)) (k2:K b2) (r2:B.heap[b2]?=some (.cells #[fnV s.1] 160)) (hs:StepV B K g s) :
    StepV B K g ((138,#[],#[ptr (some b0),ptr (some b1),ptr (some b2)]),ifThM n s.2.1,s.2.2):=by
  refine ⟨eM_ift1,fun F i h=>h.ifTh hs.inv F i,fun w0 W X F i h hI hi hC=>?_⟩
  have HLI:Hid _:=List_all h
  have c0:=cell1 (hC.row k0 r0)
  have c1:=cell1 (hC.row k1 r1)
  have c2:=cell1 (hC.row k2 r2)
  obtain ⟨kS,t0,keep,rS⟩:=hS
  have cS:=(saving_cells (hC.row kS rS)).1
  simp only at hi
  simp only
  show Calls _ _ #[ptr (some b0),ptr (some b1),ptr (some b2)] _ _
  have HST:Hid _:=h
  have hfew:=h.fs.ok.dir.few
  rcases hd:F.down with _ | _
  · have hl:listM F=(F.dir.map (·.1),0):=by unfold listM; rw [hd]; rfl
    rw [hl] at HLI
    simp only at HLI
    have HTH:Hid (thereM F n=memB (F.dir.map (·.1)) n):=there_mem hd h.fs.ok.dir
    have HIF:Hid (ifThM n s.2.1 F=if thereM F n then s.2.1 F else (F,0)):=by show _=_; unfold ifThM; rw [hd]; rfl
    obtain ⟨l,hlv⟩:∃ l,F.dir.map (·.1)=l:=⟨_,rfl⟩
    have hll:l.length ≤ 1048576:=by rw [← hlv,List.length_map]; omega
    rw [hlv] at HLI HTH
    have HLL:Hid (l.length ≤ 1048576):=hll
    have HRUN:Hid (∀ W1,Below W.heap.size W W1 → Calls Tryz.prog s.1.1 (s.1.2.1 ++ s.1.2.2) W1 (CalP w0 W1 g X F (s.2.1 F).1 (i + s.2.2) (.int .i64 (s.2.1 F).2))):=fun W1 hb=>hs.run w0 W1 X F i (h.on hb) hI hi (hC.bel hb)
    have heF:=hs.ent
    have HC2:Hid (∀ W1,Below W.heap.size W W1 → W1.cell? ⟨b1,0,none⟩=some (.string n)∧W1.cell? ⟨b2,0,none⟩=some (fnV s.1)):=fun W1 hb=>⟨cell1 (keep_row (hC.row k1 r1) hb),cell1 (keep_row (hC.row k2 r2) hb)⟩
    clear h hI hi hC k0 r0 k1 r1 k2 r2 kS rS hs hl hfew hd hlv hll
    obtain ⟨⟨D,pre,free⟩,m,nn⟩:=s
    unfold fnV at c2 HC2
    simp only at c2 HRUN heF HIF HC2
    obtain ⟨F2,e2,hm⟩:∃ F2 e2,m F=(F2,e2):=⟨_,_,rfl⟩
    rw [hm] at HRUN HIF
    simp only at HRUN
    clear hm
    unfold ptr at *
    go_enter Tryz.func138,Tryz.ntmps138
    go_wp2_with fail
    refine (show Calls _ _ _ _ _ from HLI.out).mono ?_
    rintro e w1 ⟨P,c,rfl,ho,hb⟩
    have HB1:Hid (Below W.heap.size W w1):=hb
    have HCN:Hid _:=pcontains_any (.slice P l.length c) l n HLL.out w1 (KR.own (E:=psE) ho rfl)
    obtain ⟨d1,d2⟩:=HC2.out w1 hb
    clear ho hb HLI c0 c1 c2 cS
    go_wp2_with fail
    refine (show Calls _ _ _ _ _ from HCN.out).mono ?_
    rintro e w2 ⟨hb2,rfl⟩
    have HB2:Hid (Below W.heap.size W w2):=bel_to HB1.out hb2 (Nat.le_refl _)
    obtain ⟨d1,d2⟩:=HC2.out w2 HB2.out
    rw [← HTH.out]
    clear hb2 HCN HC2
    by_cases ht:thereM F n=true
    · rw [ht]
      have HV:Hid (ifThM n m F=(F2,e2)):=by show _=_; rw [HIF.out,if_pos ht]
      have HQ:Hid _:=HRUN.out w2 HB2.out
      clear HIF HTH ht HRUN
      go_wp2_with fail
      refine (show Calls _ _ _ _ _ from HQ.out).mono ?_
      rintro e w3 ⟨rfl,X2,hs2,hb2⟩
      have HS2:Hid _:=hs2
      have HBT:Hid (Bt W g X F w3 X2 F2):=Bt.pre HB2.out hb2
      clear hs2 hb2 HQ
      go_wp2
      go_returns
      rw [HV.out]
      exact ⟨rfl,X2,HS2.out,HBT.out⟩
    · have htf:thereM F n=false:=by simpa using ht
      rw [htf]
      have HV:Hid (ifThM n m F=(F,0)):=by show _=_; rw [HIF.out,if_neg ht]
      clear HIF HTH ht htf HRUN
      go_wp2
      go_returns
      rw [HV.out]
      exact ⟨rfl,X,(HST.out.on HB2.out).more24 (by omega),(Bt.refl _ _ _ _).after HB2.out⟩
  · have hl:listM F=([],203):=by unfold listM; rw [hd]; rfl
    rw [hl] at HLI
    simp only at HLI
    have HV:Hid (ifThM n s.2.1 F=(F,203)):=ifTh_down hd
    clear h hI hi hC k0 r0 k1 r1 k2 r2 kS rS hs hl hfew hd
    obtain ⟨⟨D,pre,free⟩,m,nn⟩:=s
    unfold fnV at c2
    simp only at c2 HV
    unfold ptr at *
    go_enter Tryz.func138,Tryz.ntmps138
    go_wp2_with fail
    refine (show Calls _ _ _ _ _ from HLI.out).mono ?_
    rintro e w1 ⟨P,c,rfl,ho,hb⟩
    have HB1:Hid (Below W.heap.size W w1):=hb
    clear ho hb HLI c0 c1 c2 cS
    go_wp2
    go_returns
    rw [HV.out]
    exact ⟨rfl,X,(HST.out.on HB1.out).more24 (by omega),(Bt.refl _ _ _ _).after HB1.out⟩
set_option maxHeartbeats 1000000 in
theorem ifThere_any (S:Nat) (n:ByteArray) (x:FnV) (w:World):Calls Tryz.prog 104 #[ptr (some S),.string n,fnV x] w fun e w'=>e=.returned (.func (.func 138) #[] #[ptr (some w.heap.size),ptr (some (w.heap.size + 1)),ptr (some (w.heap.size + 2))])∧w'=((w.alloc (.cells #[ptr (some S)] 75)).alloc (.cells #[.string n] 9)).alloc (.cells #[fnV x] 160):=by
  unfold ptr fnV
  go_enter Tryz.func104,Tryz.ntmps104
  go_wp2
  go_returns
  exact ⟨by simp,rfl⟩
set_option maxHeartbeats 1000000 in
theorem prename_any (S:Nat) (n t:ByteArray) (w:World):Calls Tryz.prog 108 #[ptr (some S),.string n,.string t] w fun e w'=>e=.returned (.func (.func 145) #[] #[ptr (some w.heap.size),ptr (some (w.heap.size + 1)),ptr (some (w.heap.size + 2))])∧w'=((w.alloc (.cells #[ptr (some S)] 75)).alloc (.cells #[.string n] 9)).alloc (.cells #[.string t] 9):=by
  unfold ptr
  go_enter Tryz.func108,Tryz.ntmps108
  go_wp2
  go_returns
  exact ⟨by simp,rfl⟩
set_option maxHeartbeats 1000000 in
theorem premove_any (S:Nat) (n:ByteArray) (w:World):Calls Tryz.prog 105 #[ptr (some S),.string n] w fun e w'=>e=.returned (.func (.func 140) #[] #[ptr (some w.heap.size),ptr (some (w.heap.size + 1))])∧w'=(w.alloc (.cells #[ptr (some S)] 75)).alloc (.cells #[.string n] 9):=by
  unfold ptr
  go_enter Tryz.func105,Tryz.ntmps105
  go_wp2
  go_returns
  exact ⟨by simp,rfl⟩
end Go.Proofs.YtbgbmfmgdgalbaaGreatDoor
