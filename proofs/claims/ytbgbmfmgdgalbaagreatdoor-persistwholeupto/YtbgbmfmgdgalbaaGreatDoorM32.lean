import Derived.Test.YtbgbmfmgdgalbaaGreatDoorM31
namespace Go.Proofs.YtbgbmfmgdgalbaaGreatDoor
open Go.RowKit Go.Maps
set_option linter.unusedVariables false
set_option linter.unusedSimpArgs false
def svM (F:Fs) (t:ByteArray) (k:Nat):Fs × Int:=if (stepsM F t k).2=0 then stepsM F t k else (cleanM (cleanM (stepsM F t k).1 tmpS) tmpO,(stepsM F t k).2)
theorem one_set {W:World} {b T:Nat} {v0:Value} (h:W.heap[b]?=some (.cells #[v0] T)) (v:Value):(W.setCell ⟨b,0,none⟩ v).heap[b]?=some (.cells #[v] T)∧Only W (W.setCell ⟨b,0,none⟩ v) b:=⟨heap_setCell_same W b 0 _ _ v h,(Only.refl _ _).set _ _⟩
set_option maxHeartbeats 8000000 in
set_option maxRecDepth 400000 in
theorem prun_any {w0 w:World} {g S i k:Nat} {X:Gh} {F:Fs} {t:ByteArray} (h:St w0 w g X F i) (hI:Inv F i) (ht:t.size ≤ 1073741824) (hk:k ≤ 8) (hi:i + 32830 ≤ 3298534883000) (hS:w.heap[S]?=some (.cells #[ptr (some g),.string t,.int .i64 (k:Int)] 77)) (hSo:¬ Own g F X S) :
    Calls Tryz.prog 30 #[ptr (some S)] w (CalP w0 w g X F (svM F t k).1 (i + 32830) (.int .i64 (svM F t k).2)):=by
  obtain ⟨R,hR⟩:∃ R,w.heap.size=R:=⟨_,rfl⟩
  obtain ⟨n1,n2,n3,n4⟩:=two_new (w:=w) (.cells #[.pointer (some ⟨S,0,none⟩)] 75) (.cells #[.int .i64 0] 28)
  obtain ⟨W0,hW0⟩:∃ W0,(w.alloc (.cells #[.pointer (some ⟨S,0,none⟩)] 75)).alloc (.cells #[.int .i64 0] 28)=W0:=⟨_,rfl⟩
  rw [hW0] at n1 n2 n3 n4
  rw [hR] at n1 n2 n3
  have hSR:S < R:=by rw [← hR]; exact row_lt hS
  obtain ⟨F1,e1,hF1⟩:∃ F1 e1,stepsM F t k=(F1,e1):=⟨_,_,rfl⟩
  have HSE:Hid (seqM (msL (fiveL S g k t)) F=(F1,e1)):=(seq_run t k F).trans hF1
  have HRM:Hid (svM F t k=if e1=0 then (F1,e1) else (cleanM (cleanM F1 tmpS) tmpO,e1)):=by show _=_; unfold svM; rw [hF1]
  have HI1:Hid (Inv F1 (i + 32820)):=by have:=hI.steps (t:=t) hk ht; rw [hF1] at this; exact this
  have HS0:Hid (∀ W,Below W0.heap.size W0 W → W.heap[S]?=some (.cells #[ptr (some g),.string t,.int .i64 (k:Int)] 77)∧W.heap[R]?=some (.cells #[.pointer (some ⟨S,0,none⟩)] 75)∧W.heap[R + 1]?=some (.cells #[.int .i64 0] 28)):=fun W hb=>⟨keep_row (keep_row hS n4) hb,keep_row n1 hb,keep_row n2 hb⟩
  have HC0:Hid (∀ W,Below W0.heap.size W0 W → W.cell? ⟨R,0,none⟩=some (.pointer (some ⟨S,0,none⟩))∧W.cell? ⟨S,0,none⟩=some (.pointer (some ⟨g,0,none⟩))):=fun W hb=>⟨cell1 (HS0.out W hb).2.1,(saving_cells (HS0.out W hb).1).1⟩
  have HB0:Hid (Below w.heap.size w W0):=n4
  have HRR:Hid (w.heap.size=R):=hR
  have HSR:Hid (S < R):=hSR
  have HST:Hid _:=h
  have HI:Hid _:=hI
  have HSO:Hid (¬ Own g F X S):=hSo
  have HIB:Hid (i + 32830 ≤ 3298534883000):=hi
  have HTS:Hid (t.size ≤ 1073741824):=ht
  have HK:Hid (k ≤ 8):=hk
  have HOL:Hid (∀ j,Own g F X j → j < R):=fun j hj=>by have:=h.fs.own_lt hj; omega
  -- the list of the five,wherever it is laid
  have HRUN:Hid (∀ W b,Below W0.heap.size W0 W → R ≤ b → W.heap[b]?=some (.cells ((fiveL S g k t).map fun s=>fnV s.1).toArray 160) → Calls Tryz.prog 62 #[.slice (some ⟨b,0,none⟩) 5 5] W (CalP w0 W g X F F1 (i + 32816) (.int .i64 e1))):=fun W b hb hbR hrow=>by
    have hl:Lst (fun k=>k=S) R W g (.slice (some ⟨b,0,none⟩) 5 5) (fiveL S g k t):=Lst.lits (L:=fiveL S g k t) hbR hrow (five_stp (Or.inl rfl) (HS0.out W hb).1 HTS.out HK.out) (fun s T e=>by injection e with e1 _; subst e1; exact nrr 63 (by decide)) (by simp [fiveL]) (by simp [fiveL]) (fun j e=>by rw [e]; exact HSR.out)
    have ht5:tot (fiveL S g k t)=32816:=rfl
    have:=hl.run (by simp [fiveL]) (HST.out.on (bel_to HB0.out hb (Nat.le_refl _))) HI.out (by rw [ht5]; have:=HIB.out; omega) (fun j e=>by rw [e]; exact HSO.out) HOL.out
    rw [HSE.out,ht5] at this
    exact this
  clear h hI ht hk hi hS hSo hSR n1 n2 n3 n4 hF1
  show Calls _ _ #[.pointer (some ⟨S,0,none⟩)] _ _
  go_enter_defers Tryz.func30,Tryz.ntmps30
  go_upto_region 2 with fail
  have hcur:Below W0.heap.size W0 W0.drew:=(Below.refl _ W0).drew
  have HRb:Hid (R ≤ W0.drew.heap.size):=by have:=HB0.out.size; have:=HRR.out; show _ ≤ W0.heap.size; omega
  clear hW0 hR
  refine wp_region_noPanic ?_
  refine wp_region_held_drew (S:=fun W:World=>W.cell? ⟨R,0,none⟩=some (.pointer (some ⟨S,0,none⟩))∧W.cell? ⟨S,0,none⟩=some (.pointer (some ⟨g,0,none⟩))) (by kernel_rfl) (HC0.out _ hcur) (fun hHeld=>?_)
  refine wpAnyH_take (i:=0) (oi:={ dst:=some 4,op:=Op.load 75 (Operand.tmp 1),type:=75,pos:= "saving.go:40",after:=#[],guard:=none }) (v:=.pointer (some ⟨S,0,none⟩)) rfl (by kernel_rfl) (by kernel_rfl) (by kernel_rfl) (fun _ _ _ h=>h) (Or.inl ⟨by rfl,?y0⟩) (by assumption) ?_
  case y0=>(intro w hSw; (try dsimp only at hSw); first | (go_simp; done) | (go_simp; with_reducible rfl) | (go_simp; rfl))
  try simp only [Act.put,List.setIfInBounds_toArray,List.set_cons_zero,List.set_cons_succ]
  refine wpAnyH_take (i:=1) (oi:={ dst:=some 5,op:=Op.makeFunc (Fn.func 63) #[Operand.tmp 4] #[],type:=50,pos:= "saving.go:40",after:=#[{ on:=0,ground:=Ground.data }],guard:=none }) (v:=.func (.func 63) #[.pointer (some ⟨S,0,none⟩)] #[]) rfl (by kernel_rfl) (by kernel_rfl) (by kernel_rfl) (fun _ _ _ h=>h) (Or.inl ⟨by rfl,?y1⟩) (by assumption) ?_
  case y1=>(intro w hSw; (try dsimp only at hSw); first | (go_simp; done) | (go_simp; with_reducible rfl) | (go_simp; rfl))
  try simp only [Act.put,List.setIfInBounds_toArray,List.set_cons_zero,List.set_cons_succ]
  refine wpAnyH_take (i:=2) (oi:={ dst:=some 6,op:=Op.load 75 (Operand.tmp 1),type:=75,pos:= "saving.go:40",after:=#[],guard:=none }) (v:=.pointer (some ⟨S,0,none⟩)) rfl (by kernel_rfl) (by kernel_rfl) (by kernel_rfl) (fun _ _ _ h=>h) (Or.inl ⟨by rfl,?y2⟩) (by assumption) ?_
  case y2=>(intro w hSw; (try dsimp only at hSw); first | (go_simp; done) | (go_simp; with_reducible rfl) | (go_simp; rfl))
  try simp only [Act.put,List.setIfInBounds_toArray,List.set_cons_zero,List.set_cons_succ]
  refine wpAnyH_take (i:=3) (oi:={ dst:=some 7,op:=Op.makeFunc (Fn.func 64) #[Operand.tmp 6] #[],type:=50,pos:= "saving.go:40",after:=#[{ on:=2,ground:=Ground.data }],guard:=none }) (v:=.func (.func 64) #[.pointer (some ⟨S,0,none⟩)] #[]) rfl (by kernel_rfl) (by kernel_rfl) (by kernel_rfl) (fun _ _ _ h=>h) (Or.inl ⟨by rfl,?y3⟩) (by assumption) ?_
  case y3=>(intro w hSw; (try dsimp only at hSw); first | (go_simp; done) | (go_simp; with_reducible rfl) | (go_simp; rfl))
  try simp only [Act.put,List.setIfInBounds_toArray,List.set_cons_zero,List.set_cons_succ]
  refine wpAnyH_take (i:=4) (oi:={ dst:=some 8,op:=Op.load 75 (Operand.tmp 1),type:=75,pos:= "saving.go:40",after:=#[],guard:=none }) (v:=.pointer (some ⟨S,0,none⟩)) rfl (by kernel_rfl) (by kernel_rfl) (by kernel_rfl) (fun _ _ _ h=>h) (Or.inl ⟨by rfl,?y4⟩) (by assumption) ?_
  case y4=>(intro w hSw; (try dsimp only at hSw); first | (go_simp; done) | (go_simp; with_reducible rfl) | (go_simp; rfl))
  try simp only [Act.put,List.setIfInBounds_toArray,List.set_cons_zero,List.set_cons_succ]
  refine wpAnyH_take (i:=5) (oi:={ dst:=some 9,op:=Op.makeFunc (Fn.func 65) #[Operand.tmp 8] #[],type:=50,pos:= "saving.go:40",after:=#[{ on:=4,ground:=Ground.data }],guard:=none }) (v:=.func (.func 65) #[.pointer (some ⟨S,0,none⟩)] #[]) rfl (by kernel_rfl) (by kernel_rfl) (by kernel_rfl) (fun _ _ _ h=>h) (Or.inl ⟨by rfl,?y5⟩) (by assumption) ?_
  case y5=>(intro w hSw; (try dsimp only at hSw); first | (go_simp; done) | (go_simp; with_reducible rfl) | (go_simp; rfl))
  try simp only [Act.put,List.setIfInBounds_toArray,List.set_cons_zero,List.set_cons_succ]
  refine wpAnyH_take (i:=6) (oi:={ dst:=some 10,op:=Op.load 75 (Operand.tmp 1),type:=75,pos:= "saving.go:40",after:=#[],guard:=none }) (v:=.pointer (some ⟨S,0,none⟩)) rfl (by kernel_rfl) (by kernel_rfl) (by kernel_rfl) (fun _ _ _ h=>h) (Or.inl ⟨by rfl,?y6⟩) (by assumption) ?_
  case y6=>(intro w hSw; (try dsimp only at hSw); first | (go_simp; done) | (go_simp; with_reducible rfl) | (go_simp; rfl))
  try simp only [Act.put,List.setIfInBounds_toArray,List.set_cons_zero,List.set_cons_succ]
  refine wpAnyH_take (i:=7) (oi:={ dst:=some 11,op:=Op.makeFunc (Fn.func 66) #[Operand.tmp 10] #[],type:=50,pos:= "saving.go:40",after:=#[{ on:=6,ground:=Ground.data }],guard:=none }) (v:=.func (.func 66) #[.pointer (some ⟨S,0,none⟩)] #[]) rfl (by kernel_rfl) (by kernel_rfl) (by kernel_rfl) (fun _ _ _ h=>h) (Or.inl ⟨by rfl,?y7⟩) (by assumption) ?_
  case y7=>(intro w hSw; (try dsimp only at hSw); first | (go_simp; done) | (go_simp; with_reducible rfl) | (go_simp; rfl))
  try simp only [Act.put,List.setIfInBounds_toArray,List.set_cons_zero,List.set_cons_succ]
  refine wpAnyH_take (i:=8) (oi:={ dst:=some 12,op:=Op.load 75 (Operand.tmp 1),type:=75,pos:= "saving.go:40",after:=#[],guard:=none }) (v:=.pointer (some ⟨S,0,none⟩)) rfl (by kernel_rfl) (by kernel_rfl) (by kernel_rfl) (fun _ _ _ h=>h) (Or.inl ⟨by rfl,?y8⟩) (by assumption) ?_
  case y8=>(intro w hSw; (try dsimp only at hSw); first | (go_simp; done) | (go_simp; with_reducible rfl) | (go_simp; rfl))
  try simp only [Act.put,List.setIfInBounds_toArray,List.set_cons_zero,List.set_cons_succ]
  refine wpAnyH_take (i:=9) (oi:={ dst:=some 13,op:=Op.nilCheck (Operand.tmp 12),type:=0,pos:= "saving.go:40",after:=#[{ on:=8,ground:=Ground.data }],guard:=none }) (v:=.pointer (some ⟨S,0,none⟩)) rfl (by kernel_rfl) (by kernel_rfl) (by kernel_rfl) (fun _ _ _ h=>h) (Or.inl ⟨by rfl,?y9⟩) (by assumption) ?_
  case y9=>(intro w hSw; (try dsimp only at hSw); first | (go_simp; done) | (go_simp; with_reducible rfl) | (go_simp; rfl))
  try simp only [Act.put,List.setIfInBounds_toArray,List.set_cons_zero,List.set_cons_succ]
  refine wpAnyH_take (i:=10) (oi:={ dst:=some 14,op:=Op.fieldAddr 77 (Operand.tmp 13) 0,type:=0,pos:= "saving.go:40",after:=#[{ on:=9,ground:=Ground.data }],guard:=none }) (v:=.pointer (some ⟨S,0,none⟩)) rfl (by kernel_rfl) (by kernel_rfl) (by kernel_rfl) (fun _ _ _ h=>h) (Or.inl ⟨by rfl,?y10⟩) (by assumption) ?_
  case y10=>(intro w hSw; (try dsimp only at hSw); first | (go_simp; done) | (go_simp; with_reducible rfl) | (go_simp; rfl))
  try simp only [Act.put,List.setIfInBounds_toArray,List.set_cons_zero,List.set_cons_succ]
  refine wpAnyH_take (i:=11) (oi:={ dst:=some 15,op:=Op.load 25 (Operand.tmp 14),type:=25,pos:= "saving.go:40",after:=#[{ on:=10,ground:=Ground.data }],guard:=none }) (v:=.pointer (some ⟨g,0,none⟩)) rfl (by kernel_rfl) (by kernel_rfl) (by kernel_rfl) (fun _ _ _ h=>h) (Or.inl ⟨by rfl,?y11⟩) (by assumption) ?_
  case y11=>(intro w hSw; (try dsimp only at hSw); first | (go_simp; done) | (go_simp; with_reducible rfl) | (go_simp; rfl))
  try simp only [Act.put,List.setIfInBounds_toArray,List.set_cons_zero,List.set_cons_succ]
  refine wpAnyH_take (i:=12) (oi:={ dst:=some 16,op:=Op.makeFunc (Fn.func 67) #[Operand.tmp 15] #[],type:=50,pos:= "saving.go:40",after:=#[{ on:=11,ground:=Ground.data }],guard:=none }) (v:=.func (.func 67) #[.pointer (some ⟨g,0,none⟩)] #[]) rfl (by kernel_rfl) (by kernel_rfl) (by kernel_rfl) (fun _ _ _ h=>h) (Or.inl ⟨by rfl,?y12⟩) (by assumption) ?_
  case y12=>(intro w hSw; (try dsimp only at hSw); first | (go_simp; done) | (go_simp; with_reducible rfl) | (go_simp; rfl))
  try simp only [Act.put,List.setIfInBounds_toArray,List.set_cons_zero,List.set_cons_succ]
  refine wpAnyH_ready (rs:=[13]) (by kernel_rfl) (by simp) ?_
  refine AllReadyH.cons (o:={ dst:=some 17,op:=Op.buildSlice 124 5 #[(0,Operand.tmp 5),(1,Operand.tmp 7),(2,Operand.tmp 9),(3,Operand.tmp 11),(4,Operand.tmp 16)],type:=124,pos:= "saving.go:40",after:=#[{ on:=1,ground:=Ground.data },{ on:=3,ground:=Ground.data },{ on:=5,ground:=Ground.data },{ on:=7,ground:=Ground.data },{ on:=12,ground:=Ground.data }],guard:=none }) rfl (fun K hK=>?_) AllReadyH.nil
  go_simp
  refine hK.out _ _ (by first | exact HC0.out _ hcur | exact HC0.out _ (hcur.alloc hcur.size _) | exact hk5 | exact hk6) (fun hHeld=>?_)
  clear hK K
  try simp only [Act.put,List.setIfInBounds_toArray,List.set_cons_zero,List.set_cons_succ]
  refine wpAnyH_ready (rs:=[14]) (by kernel_rfl) (by simp) ?_
  refine AllReadyH.cons (o:={ dst:=some 18,op:=Op.call { callee:=Callee.value (Operand.func 62),args:=#[Operand.tmp 17],argTypes:=#[124] },type:=28,pos:= "saving.go:40",after:=#[{ on:=13,ground:=Ground.data }],guard:=none }) rfl (fun K hK=>?_) AllReadyH.nil
  first | (go_at_call 62; refine (show Calls _ _ _ _ _ from HRUN.out _ _ (hcur.alloc hcur.size _) HRb.out (one_alloc _ _)).mono ?_; rintro e w5 ⟨rfl,X2,hs2,hb2⟩; have hS0:=HS0.out _ (hcur.alloc hcur.size (.cells ((fiveL S g k t).map fun s=>fnV s.1).toArray 160)); have q5:=hb2.md.row hS0.1 HSO.out; have q6:=hb2.md.row hS0.2.1 (fun ho=>by have:=HOL.out _ ho; omega); have q7:=hb2.md.row hS0.2.2 (fun ho=>by have:=HOL.out _ ho; omega); have HS2:Hid _:=hs2; have HB2:Hid _:=hb2; have HQ5:Hid _:=q5; have HQ6:Hid _:=q6; have HQ7:Hid _:=q7; have hk5:w5.cell? ⟨R,0,none⟩=some (.pointer (some ⟨S,0,none⟩))∧w5.cell? ⟨S,0,none⟩=some (.pointer (some ⟨g,0,none⟩)):=⟨cell1 q6,(saving_cells q5).1⟩; have h5c:=cell1 q7; have h5f:w5.frozen? ⟨R + 1,0,none⟩=false:=frozen_of_row _ _ _ _ _ q7; have hk6:(w5.setCell ⟨R + 1,0,none⟩ (.int .i64 e1)).cell? ⟨R,0,none⟩=some (.pointer (some ⟨S,0,none⟩))∧(w5.setCell ⟨R + 1,0,none⟩ (.int .i64 e1)).cell? ⟨S,0,none⟩=some (.pointer (some ⟨g,0,none⟩)):=⟨(World.cell?_setCell_far _ _ _ _ (by simp)).trans hk5.1,(World.cell?_setCell_far _ _ _ _ (by have:=HSR.out; simp; omega)).trans hk5.2⟩; clear hs2 hb2 q5 q6 q7 hS0) | (go_simp; go_at_call 62; refine (show Calls _ _ _ _ _ from HRUN.out _ _ (hcur.alloc hcur.size _) HRb.out (one_alloc _ _)).mono ?_; rintro e w5 ⟨rfl,X2,hs2,hb2⟩; have hS0:=HS0.out _ (hcur.alloc hcur.size (.cells ((fiveL S g k t).map fun s=>fnV s.1).toArray 160)); have q5:=hb2.md.row hS0.1 HSO.out; have q6:=hb2.md.row hS0.2.1 (fun ho=>by have:=HOL.out _ ho; omega); have q7:=hb2.md.row hS0.2.2 (fun ho=>by have:=HOL.out _ ho; omega); have HS2:Hid _:=hs2; have HB2:Hid _:=hb2; have HQ5:Hid _:=q5; have HQ6:Hid _:=q6; have HQ7:Hid _:=q7; have hk5:w5.cell? ⟨R,0,none⟩=some (.pointer (some ⟨S,0,none⟩))∧w5.cell? ⟨S,0,none⟩=some (.pointer (some ⟨g,0,none⟩)):=⟨cell1 q6,(saving_cells q5).1⟩; have h5c:=cell1 q7; have h5f:w5.frozen? ⟨R + 1,0,none⟩=false:=frozen_of_row _ _ _ _ _ q7; have hk6:(w5.setCell ⟨R + 1,0,none⟩ (.int .i64 e1)).cell? ⟨R,0,none⟩=some (.pointer (some ⟨S,0,none⟩))∧(w5.setCell ⟨R + 1,0,none⟩ (.int .i64 e1)).cell? ⟨S,0,none⟩=some (.pointer (some ⟨g,0,none⟩)):=⟨(World.cell?_setCell_far _ _ _ _ (by simp)).trans hk5.1,(World.cell?_setCell_far _ _ _ _ (by have:=HSR.out; simp; omega)).trans hk5.2⟩; clear hs2 hb2 q5 q6 q7 hS0)
  refine hK.out _ _ (by first | exact HC0.out _ hcur | exact HC0.out _ (hcur.alloc hcur.size _) | exact hk5 | exact hk6) (fun hHeld=>?_)
  clear hK K
  try simp only [Act.put,List.setIfInBounds_toArray,List.set_cons_zero,List.set_cons_succ]
  refine wpAnyH_ready (rs:=[15]) (by kernel_rfl) (by simp) ?_
  refine AllReadyH.cons (o:={ dst:=none,op:=Op.store 28 (Operand.tmp 2) (Operand.tmp 18),type:=0,pos:= "saving.go:40",after:=#[{ on:=14,ground:=Ground.data },{ on:=14,ground:=Ground.chain },{ on:=0,ground:=Ground.phase },{ on:=1,ground:=Ground.phase },{ on:=2,ground:=Ground.phase },{ on:=3,ground:=Ground.phase },{ on:=4,ground:=Ground.phase },{ on:=5,ground:=Ground.phase },{ on:=6,ground:=Ground.phase },{ on:=7,ground:=Ground.phase },{ on:=8,ground:=Ground.phase },{ on:=9,ground:=Ground.phase },{ on:=10,ground:=Ground.phase },{ on:=11,ground:=Ground.phase },{ on:=12,ground:=Ground.phase },{ on:=13,ground:=Ground.phase },{ on:=14,ground:=Ground.phase }],guard:=none }) rfl (fun K hK=>?_) AllReadyH.nil
  go_simp
  refine hK.out _ _ (by first | exact HC0.out _ hcur | exact HC0.out _ (hcur.alloc hcur.size _) | exact hk5 | exact hk6) (fun hHeld=>?_)
  clear hK K
  try simp only [Act.put,List.setIfInBounds_toArray,List.set_cons_zero,List.set_cons_succ]
  refine wpAnyH_done (by kernel_rfl) ?_ _
  refine NoPanic.normal ?_
  obtain ⟨s1,s2⟩:=one_set HQ7.out (.int .i64 e1)
  obtain ⟨w6,hw6⟩:∃ w6,w5.setCell ⟨R + 1,0,none⟩ (.int .i64 e1)=w6:=⟨_,rfl⟩
  rw [hw6] at s1 s2 hk6 ⊢
  have hm6:ModP (fun k=>k=R + 1) w5 w6:=ModP.only s2 rfl
  have HST6:Hid (St w0 w6 g X2 F1 (i + 32816)):=HS2.out.one hm6 HQ7.out (by unfold tyOwn; decide) (by decide) (by decide) (by have:=HST.out.bel.size; have:=HRR.out; omega)
  have HB5:Hid (Bt w g X F w5 X2 F1):=Bt.pre (bel_to HB0.out (hcur.alloc hcur.size _) (Nat.le_refl _)) HB2.out
  have HB6:Hid (Bt w g X F w6 X2 F1):=⟨HB5.out.md.andThen hm6 (fun j hj e=>by have:=HRR.out; omega),HB5.out.own⟩
  have HR6:Hid (w6.heap[S]?=some (.cells #[ptr (some g),.string t,.int .i64 (k:Int)] 77)):=hm6.row HQ5.out (by have:=HSR.out; omega)
  have HC6:Hid (w6.heap[R + 1]?=some (.cells #[.int .i64 e1] 28)):=s1
  have HNO:Hid (∀ j,j < w.heap.size → ¬ Own g F X j → ¬ Own g F1 X2 j):=fun j hj hn ho=>by
    rcases HB5.out.own j ho with q | q
    · exact hn q
    · omega
  have h6c:=cell1 s1
  have h6r:=hk6.1
  have HNR:Hid (¬ Own g F1 X2 (R + 1)):=fun ho=>by
    have h1:=(HS2.out.fs.toFsC).own_ty ho HQ7.out
    exact absurd h1 (by unfold tyOwn; decide)
  clear s1 s2 hw6 hm6 hk5 hk6 h5c h5f HRUN HC0 HS0 hcur HRb HQ5 HQ6 HQ7 HS2 HB2
  by_cases h0:e1=0
  · subst h0
    have HV:Hid (svM F t k=(F1,0)):=by show _=_; rw [HRM.out,if_pos rfl]
    go_wp2
    refine leaves_cons (f:=60) (args:=#[.pointer (some ⟨R + 1,0,none⟩),.pointer (some ⟨R,0,none⟩)]) (by simp) (by simp [go_sem]) ?_
    refine (run1_ok (R + 1) R _ h6c).mono ?_
    rintro e u' w'' ⟨rfl,rfl,rfl⟩
    rw [HV.out]
    simp [Leaves,settle,results,Tryz.results30,go_sem,h6c]
    exact ⟨rfl,X2,HST6.out.more24 (by omega),HB6.out⟩
  · have HV:Hid (svM F t k=(cleanM (cleanM F1 tmpS) tmpO,e1)):=by show _=_; rw [HRM.out,if_neg h0]
    have HCL:Hid (Calls Tryz.prog 61 #[.pointer (some ⟨S,0,none⟩)] w6 (CalP w0 w6 g X2 F1 (cleanM (cleanM F1 tmpS) tmpO) (i + 32820 + 2) (.tuple #[]))):=pcleanUp_any (HST6.out.more24 (by omega)) HI1.out (by have:=HIB.out; omega) HR6.out (HNO.out S (by have:=HSR.out; have:=HRR.out; omega) HSO.out)
    have HN0:Hid (e1 ≠ 0):=h0
    clear h0
    go_wp2
    refine leaves_cons (f:=60) (args:=#[.pointer (some ⟨R + 1,0,none⟩),.pointer (some ⟨R,0,none⟩)]) (by simp) (by simp [go_sem]) ?_
    refine (run1_bad (R + 1) R S e1 HN0.out (fun w'=>∃ X',St w0 w' g X' (cleanM (cleanM F1 tmpS) tmpO) (i + 32820 + 2)∧Bt w6 g X2 F1 w' X' (cleanM (cleanM F1 tmpS) tmpO)) _ h6c h6r HCL.out).mono ?_
    rintro e u' w'' ⟨rfl,rfl,X3,hs3,hb3⟩
    have h7c:=cell1 (hb3.md.row HC6.out HNR.out)
    rw [HV.out]
    simp [Leaves,settle,results,Tryz.results30,go_sem,h7c]
    exact ⟨rfl,X3,hs3.more24 (by omega),HB6.out.trans hb3⟩
end Go.Proofs.YtbgbmfmgdgalbaaGreatDoor
