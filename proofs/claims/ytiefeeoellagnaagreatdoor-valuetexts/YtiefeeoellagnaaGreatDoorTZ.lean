import Derived.Test.YtiefeeoellagnaaGreatDoorTW
import Derived.Deep.RegionHeld3
namespace Go.Proofs.YtiefeeoellagnaaGreatDoor.V
open Go.RowKit
open S6 (Laid Lay)
set_option linter.unusedVariables false
set_option linter.unusedSimpArgs false
set_option maxHeartbeats 8000000 in
set_option maxRecDepth 20000 in
theorem members_10 (bv:Nat) (C C' O:Array Value) (tv fv sv:Value) (ts:List ByteArray) (s0:ByteArray) (hs0:ts.headD ⟨#[]⟩=s0) (I N:Int) (bk:Bool) (e n:Int) (S:Nat → Prop) (Post:Nat → World → Prop)
    (h25:C.size=25) (h25':C'.size=25) (h1:C'.all (·.oneCell')=true) (hO:OPK O 10 tv fv sv I N bk) (hl:ts.length * 16 ≤ 140737488351232) (w:World)
    (hts:SRow w tv ts) (hnil:∀ c,tv=.slice none 0 c → c=0) (hS:∀ k,S k → k < w.heap.size) (hot:SOut S tv ts) (hA:Aft w.heap.size Post)
    (hp:∀ B W mv,Below w.heap.size w W → w.heap.size ≤ B → B ≤ W.heap.size → SRow W mv ts → SOut (fun k=>k < w.heap.size) mv ts → Calls Tryz.prog 101 #[.pointer (some ⟨bv,0,none⟩),sv] W fun x w'=>x=.returned (.tuple #[.int .i64 n,.int .i64 e])∧Post B w'∧ModS S W w')
    (hd:∀ W,SRow W tv ts → ModS (fun k=>S k ∨ w.heap.size ≤ k) w W → Calls Tryz.prog 102 #[.agg C,sv] W fun x w'=>x=.returned (.tuple #[.agg C',.int .i64 n,.int .i64 e])∧Below W.heap.size W w') :
    Calls Tryz.prog 41 #[.pointer (some ⟨bv,0,none⟩),.agg C,.agg O] w fun x w'=>x=.returned (.tuple #[.agg C',.bool true])∧Post w.heap.size w'∧ModS S w w':=by
  obtain ⟨Z,hZ⟩:∃ Z,Z=zC:=⟨_,rfl⟩
  have HZZ:Hid (Z=zC):=hZ
  have HZS:Hid (Z.size=25):=by rw [hZ]; rfl
  clear hZ
  obtain ⟨W1,hW1⟩:∃ W1,W1=((w.alloc (.cells C 42)).alloc (.cells O 53)).alloc (.cells Z 42):=⟨_,rfl⟩
  obtain ⟨r,hr⟩:∃ r,w.heap.size=r:=⟨_,rfl⟩
  have HRR:Hid (w.heap.size=r):=hr
  have HB1:Hid (Below w.heap.size w W1):=by rw [hW1]; exact (three_rows _ _ _).1
  have HW1:Hid (W1.heap.size=r + 3):=by show W1.heap.size=r + 3; rw [hW1,← hr]; simp [World.size_alloc]
  have HT:Hid (SOut (fun k=>S k ∨ r ≤ k) tv ts):=by
    rcases hts with ⟨rfl,_⟩ | ⟨g,o,c,rfl,hc⟩
    · exact Or.inl rfl
    · rcases hot with h0 | ⟨g',o',c',he,hn⟩
      · exact Or.inl h0
      · by_cases h0:ts=[]
        · exact Or.inl h0
        · injection he with he _ _
          injection he with he
          injection he with he _ _
          subst he
          have hlt:0 < ts.length:=List.length_pos_iff.2 h0
          have hb:=World.block_lt_of_cell? w _ (hc 0 hlt)
          refine Or.inr ⟨g,o,c,rfl,fun e=>?_⟩
          rcases e with e | e
          · exact hn e
          · rw [← hr] at e
            have hb':g < w.heap.size:=hb
            omega
  have HCS:Hid (∀ mv W,SRow W mv ts → SOut (fun k=>k < r + 3) mv ts → Below W1.heap.size W1 W → CS w S r O Z mv tv ts C W):=fun mv W hm hom hb=>by
    have h3:=three_rows (w:=w) (.cells C 42) (.cells O 53) (.cells Z 42)
    rw [← hW1,hr] at h3
    obtain ⟨g1,g2,g3,g4⟩:=h3
    exact ⟨keep_row g2 hb,keep_row g3 hb,keep_row g4 hb,hm,(hts.on HB1.out).on hb,hom,HT.out,fun k e=>by rw [← hr]; exact hS k e,ModS.of (HB1.out.trans (hb.mono HB1.out.size))⟩
  have HTW:Hid (Calls Tryz.prog 26 #[tv] W1 fun e w'=>∃ v',e=.returned v'∧SRow w' v' ts∧SOut (fun k=>k < W1.heap.size) v' ts∧Below W1.heap.size W1 w'):=twin_fresh tv ts hl W1 (hts.on HB1.out) hnil
  have HSM:Hid (∀ W mv,SRow W mv ts → SRow W tv ts → Calls Tryz.prog 34 #[mv,tv] W fun e w'=>e=.returned (.bool true)∧Below W.heap.size W w'):=fun W mv a b=>(sameT_any mv tv ts ts (by omega) (by omega) W a b).mono fun x w' hx=>by
    obtain ⟨⟨b,rfl,hb⟩,k,rfl⟩:=hx
    rw [hb.2 rfl]
    exact ⟨rfl,below_dn (Below.refl _ _) k⟩
  have HONE:Hid (∀ W,SRow W tv ts → Calls Tryz.prog 28 #[tv] W fun e w'=>e=.returned (.string s0)∧Below W.heap.size W w'):=fun W a=>by rw [← hs0]; exact one_any tv ts W a
  have HO:Hid _:=hO
  have HP:Hid _:=hp
  have HD:Hid _:=hd
  rw [hr] at HD
  have HAF:Hid (Aft r Post):=by rw [← hr]; exact hA
  have HLE:Hid (w.heap.size ≤ r + 3):=by show _ ≤ _; omega
  have HSZ:Hid (∀ W,Below W1.heap.size W1 W → r + 3 ≤ W.heap.size):=fun W hb=>by have:=hb.size; rw [HW1.out] at this; exact this
  have HUP:Hid (∀ W,Below W1.heap.size W1 W → Below w.heap.size w W):=fun W hb=>HB1.out.trans (hb.mono HB1.out.size)
  have HC1:Hid (W1.cell? ⟨r + 1,1,none⟩=some tv):=by
    have h3:=three_rows (w:=w) (.cells C 42) (.cells O 53) (.cells Z 42)
    rw [← hW1,hr] at h3
    exact (cellC h3.2.2.1).trans hO.2.2.1
  have h1c:Hid _:=h1
  clear hs0 hts hnil hS hot hA hp hd hr hO h1 hl
  go_enter Tryz.func41,Tryz.ntmps41
  go_upto_region 1 with (refine alR rfl rfl Z HZZ.out ?_)
  rw [← hW1,HRR.out]
  clear hW1
  have c1:=HC1.out
  go_wp2_with fail
  refine (show Calls _ _ _ _ _ from HTW.out).mono ?_
  rintro x w2 ⟨mv,rfl,hm2,ho2,hbel1⟩
  have hcs:=HCS.out mv w2 hm2 (ho2.weak fun k hk=>by rw [HW1.out]; exact hk) hbel1
  have hbel:=HUP.out _ hbel1
  clear c1 hm2 ho2
  obtain ⟨c0,c1,c2,c3,c4,c5,c6⟩:=hcs.c HO.out
  go_wp2_with fail
  refine (show Calls _ _ _ _ _ from HP.out _ _ _ hbel HLE.out (HSZ.out _ hbel1) hcs.m (hcs.om.weak (fun k hk=>by have:=HRR.out; omega))).mono ?_; rintro x wp ⟨rfl,hpo,hmp⟩; have hcs:=hcs.mod hmp
  clear hbel hbel1
  clear c0 c1 c2 c3 c4 c5 c6
  obtain ⟨c0,c1,c2,c3,c4,c5,c6⟩:=hcs.c HO.out
  go_wp2_with (refine ldR C r _ (by rfl) rfl rfl hcs.rng h25 ?_)
  refine (show Calls _ _ _ _ _ from HD.out _ hcs.t hcs.md).mono ?_; rintro x wd ⟨rfl,hbd⟩; have hpo:=HAF.out.on hpo hbd; have hcs:=hcs.on hbd
  clear c0 c1 c2 c3 c4 c5 c6
  go_wp2_with (refine stR rfl _ _ rfl r C' C rfl rfl h25' h1c.out h25 hcs.rD ?_; intro W5 hr5 hm5)
  have hpo:=HAF.out.keep _ _ _ hpo (ModS.mod hm5 ⟨Nat.le_refl _,by omega⟩)
  have hcs:=hcs.set hr5 hm5
  have hpo:=HAF.out.on hpo (Below.refl _ _).drew
  have hcs:=hcs.on (Below.refl _ _).drew
  refine wp_region_held_drew (S:=fun W:World=>W.rangeAt r 0 C'.toList∧W.cell? ⟨r + 1,1,none⟩=some tv) (by kernel_rfl) (⟨hcs.rng,(hcs.c HO.out).2.1⟩) (fun hHeld=>?_)
  refine wpAnyH_take (i:=0) (oi:={ dst:=some 116,op:=Op.load 42 (Operand.tmp 4),type:=42,pos:= "law.go:173",after:=#[],guard:=none }) (v:=.agg C') rfl (by kernel_rfl) (by kernel_rfl) (by kernel_rfl) (fun _ _ _ h=>h) (yl53 C' r _ rfl rfl (fun _ h=>h.1) h25') (by assumption) ?_
  try simp only [Act.put,List.setIfInBounds_toArray,List.set_cons_zero,List.set_cons_succ]
  refine wpAnyH_take (i:=1) (oi:={ dst:=some 117,op:=Op.move (Operand.tmp 9),type:=3,pos:= "law.go:173",after:=#[],guard:=none }) (v:=.int .i64 n) rfl (by kernel_rfl) (by kernel_rfl) (by kernel_rfl) (fun _ _ _ h=>h) (Or.inl ⟨by rfl,?y1⟩) (by assumption) ?_
  case y1=>(intro w hSw; (try dsimp only at hSw); first | (go_simp; done) | (go_simp; with_reducible rfl) | (go_simp; rfl))
  try simp only [Act.put,List.setIfInBounds_toArray,List.set_cons_zero,List.set_cons_succ]
  refine wpAnyH_take (i:=2) (oi:={ dst:=some 118,op:=Op.move (Operand.tmp 10),type:=3,pos:= "law.go:173",after:=#[],guard:=none }) (v:=.int .i64 n) rfl (by kernel_rfl) (by kernel_rfl) (by kernel_rfl) (fun _ _ _ h=>h) (Or.inl ⟨by rfl,?y2⟩) (by assumption) ?_
  case y2=>(intro w hSw; (try dsimp only at hSw); first | (go_simp; done) | (go_simp; with_reducible rfl) | (go_simp; rfl))
  try simp only [Act.put,List.setIfInBounds_toArray,List.set_cons_zero,List.set_cons_succ]
  refine wpAnyH_take (i:=3) (oi:={ dst:=some 119,op:=Op.binOp BinOp.eql 3 (Operand.tmp 117) (Operand.tmp 118) 3,type:=4,pos:= "law.go:173",after:=#[{ on:=1,ground:=Ground.data },{ on:=2,ground:=Ground.data }],guard:=none }) (v:=.bool true) rfl (by kernel_rfl) (by kernel_rfl) (by kernel_rfl) (fun _ _ _ h=>h) (Or.inl ⟨by rfl,?y3⟩) (by assumption) ?_
  case y3=>(intro w hSw; (try dsimp only at hSw); first | (go_simp; done) | (go_simp; with_reducible rfl) | (go_simp; rfl))
  try simp only [Act.put,List.setIfInBounds_toArray,List.set_cons_zero,List.set_cons_succ]
  refine wpAnyH_take (i:=4) (oi:={ dst:=some 120,op:=Op.move (Operand.tmp 119),type:=4,pos:= "law.go:173",after:=#[{ on:=3,ground:=Ground.data }],guard:=none }) (v:=.bool true) rfl (by kernel_rfl) (by kernel_rfl) (by kernel_rfl) (fun _ _ _ h=>h) (Or.inl ⟨by rfl,?y4⟩) (by assumption) ?_
  case y4=>(intro w hSw; (try dsimp only at hSw); first | (go_simp; done) | (go_simp; with_reducible rfl) | (go_simp; rfl))
  try simp only [Act.put,List.setIfInBounds_toArray,List.set_cons_zero,List.set_cons_succ]
  refine wpAnyH_take (i:=5) (oi:={ dst:=some 121,op:=Op.move (Operand.tmp 12),type:=28,pos:= "law.go:173",after:=#[{ on:=4,ground:=Ground.guard }],guard:=some (4,true) }) (v:=.int .i64 e) rfl (by kernel_rfl) (by kernel_rfl) (by kernel_rfl) (fun _ _ _ h=>h) (Or.inl ⟨by rfl,?y5⟩) (by assumption) ?_
  case y5=>(intro w hSw; (try dsimp only at hSw); first | (go_simp; done) | (go_simp; with_reducible rfl) | (go_simp; rfl))
  try simp only [Act.put,List.setIfInBounds_toArray,List.set_cons_zero,List.set_cons_succ]
  refine wpAnyH_take (i:=6) (oi:={ dst:=some 122,op:=Op.move (Operand.tmp 11),type:=3,pos:= "law.go:173",after:=#[{ on:=4,ground:=Ground.guard }],guard:=some (4,true) }) (v:=.int .i64 e) rfl (by kernel_rfl) (by kernel_rfl) (by kernel_rfl) (fun _ _ _ h=>h) (Or.inl ⟨by rfl,?y6⟩) (by assumption) ?_
  case y6=>(intro w hSw; (try dsimp only at hSw); first | (go_simp; done) | (go_simp; with_reducible rfl) | (go_simp; rfl))
  try simp only [Act.put,List.setIfInBounds_toArray,List.set_cons_zero,List.set_cons_succ]
  refine wpAnyH_take (i:=7) (oi:={ dst:=some 123,op:=Op.binOp BinOp.eql 3 (Operand.tmp 121) (Operand.tmp 122) 3,type:=4,pos:= "law.go:173",after:=#[{ on:=5,ground:=Ground.data },{ on:=6,ground:=Ground.data },{ on:=4,ground:=Ground.guard }],guard:=some (4,true) }) (v:=.bool true) rfl (by kernel_rfl) (by kernel_rfl) (by kernel_rfl) (fun _ _ _ h=>h) (Or.inl ⟨by rfl,?y7⟩) (by assumption) ?_
  case y7=>(intro w hSw; (try dsimp only at hSw); first | (go_simp; done) | (go_simp; with_reducible rfl) | (go_simp; rfl))
  try simp only [Act.put,List.setIfInBounds_toArray,List.set_cons_zero,List.set_cons_succ]
  refine wpAnyH_take (i:=8) (oi:={ dst:=some 124,op:=Op.pick (Operand.tmp 120) (Operand.tmp 123) (Operand.const (Value.bool false)),type:=4,pos:= "law.go:173",after:=#[{ on:=4,ground:=Ground.data },{ on:=7,ground:=Ground.data }],guard:=none }) (v:=.bool true) rfl (by kernel_rfl) (by kernel_rfl) (by kernel_rfl) (fun _ _ _ h=>h) (Or.inl ⟨by rfl,?y8⟩) (by assumption) ?_
  case y8=>(intro w hSw; (try dsimp only at hSw); first | (go_simp; done) | (go_simp; with_reducible rfl) | (go_simp; rfl))
  try simp only [Act.put,List.setIfInBounds_toArray,List.set_cons_zero,List.set_cons_succ]
  refine wpAnyH_take (i:=9) (oi:={ dst:=some 125,op:=Op.move (Operand.tmp 124),type:=4,pos:= "law.go:173",after:=#[{ on:=8,ground:=Ground.data },{ on:=4,ground:=Ground.chain }],guard:=none }) (v:=.bool true) rfl (by kernel_rfl) (by kernel_rfl) (by kernel_rfl) (fun _ _ _ h=>h) (Or.inl ⟨by rfl,?y9⟩) (by assumption) ?_
  case y9=>(intro w hSw; (try dsimp only at hSw); first | (go_simp; done) | (go_simp; with_reducible rfl) | (go_simp; rfl))
  try simp only [Act.put,List.setIfInBounds_toArray,List.set_cons_zero,List.set_cons_succ]
  refine wpAnyH_take (i:=10) (oi:={ dst:=some 126,op:=Op.move (Operand.tmp 8),type:=34,pos:= "law.go:173",after:=#[{ on:=9,ground:=Ground.guard }],guard:=some (9,true) }) (v:=mv) rfl (by kernel_rfl) (by kernel_rfl) (by kernel_rfl) (fun _ _ _ h=>h) (Or.inl ⟨by rfl,?y10⟩) (by assumption) ?_
  case y10=>(intro w hSw; (try dsimp only at hSw); first | (go_simp; done) | (go_simp; with_reducible rfl) | (go_simp; rfl))
  try simp only [Act.put,List.setIfInBounds_toArray,List.set_cons_zero,List.set_cons_succ]
  refine wpAnyH_take (i:=11) (oi:={ dst:=some 127,op:=Op.fieldAddr 53 (Operand.tmp 5) 1,type:=0,pos:= "law.go:173",after:=#[{ on:=9,ground:=Ground.guard }],guard:=some (9,true) }) (v:=.pointer (some ⟨r + 1,1,none⟩)) rfl (by kernel_rfl) (by kernel_rfl) (by kernel_rfl) (fun _ _ _ h=>h) (Or.inl ⟨by rfl,?y11⟩) (by assumption) ?_
  case y11=>(intro w hSw; (try dsimp only at hSw); first | (go_simp; done) | (go_simp; with_reducible rfl) | (go_simp; rfl))
  try simp only [Act.put,List.setIfInBounds_toArray,List.set_cons_zero,List.set_cons_succ]
  refine wpAnyH_take (i:=12) (oi:={ dst:=some 128,op:=Op.load 34 (Operand.tmp 127),type:=34,pos:= "law.go:173",after:=#[{ on:=11,ground:=Ground.data },{ on:=9,ground:=Ground.guard }],guard:=some (9,true) }) (v:=tv) rfl (by kernel_rfl) (by kernel_rfl) (by kernel_rfl) (fun _ _ _ h=>h) (Or.inl ⟨by rfl,?y12⟩) (by assumption) ?_
  case y12=>(intro w hSw; (try dsimp only at hSw); first | (go_simp; done) | (go_simp; with_reducible rfl) | (go_simp; rfl))
  try simp only [Act.put,List.setIfInBounds_toArray,List.set_cons_zero,List.set_cons_succ]
  refine wpAnyH_ready (rs:=[13]) (by kernel_rfl) (by simp) ?_
  refine AllReadyH.cons (o:={ dst:=some 129,op:=Op.call { callee:=Callee.value (Operand.func 34),args:=#[Operand.tmp 126,Operand.tmp 128],argTypes:=#[34,34] },type:=4,pos:= "law.go:173",after:=#[{ on:=10,ground:=Ground.data },{ on:=12,ground:=Ground.data },{ on:=9,ground:=Ground.chain },{ on:=9,ground:=Ground.guard }],guard:=some (9,true) }) rfl (fun K hK=>?_) AllReadyH.nil
  first | (go_at_call 34; refine (show Calls _ _ _ _ _ from HSM.out _ _ hcs.m hcs.t).mono ?_; rintro x ws ⟨rfl,hbs⟩; have hpo:=HAF.out.on hpo hbs; have hcs:=hcs.on hbs) | (go_simp; go_at_call 34; refine (show Calls _ _ _ _ _ from HSM.out _ _ hcs.m hcs.t).mono ?_; rintro x ws ⟨rfl,hbs⟩; have hpo:=HAF.out.on hpo hbs; have hcs:=hcs.on hbs)
  refine hK.out _ _ (⟨hcs.rng,(hcs.c HO.out).2.1⟩) (fun hHeld=>?_)
  clear hK K
  try simp only [Act.put,List.setIfInBounds_toArray,List.set_cons_zero,List.set_cons_succ]
  refine wpAnyH_take (i:=14) (oi:={ dst:=some 130,op:=Op.pick (Operand.tmp 125) (Operand.tmp 129) (Operand.const (Value.bool false)),type:=4,pos:= "law.go:173",after:=#[{ on:=9,ground:=Ground.data },{ on:=13,ground:=Ground.data },{ on:=15,ground:=Ground.gcOnly Departure.lateStores }],guard:=none }) (v:=.bool true) rfl (by kernel_rfl) (by kernel_rfl) (by kernel_rfl) (fun _ _ _ h=>h) (Or.inl ⟨by rfl,?y14⟩) (by assumption) ?_
  case y14=>(intro w hSw; (try dsimp only at hSw); first | (go_simp; done) | (go_simp; with_reducible rfl) | (go_simp; rfl))
  try simp only [Act.put,List.setIfInBounds_toArray,List.set_cons_zero,List.set_cons_succ]
  refine wpAnyH_ready (rs:=[15]) (by kernel_rfl) (by simp) ?_
  refine AllReadyH.cons (o:={ dst:=none,op:=Op.store 42 (Operand.tmp 6) (Operand.tmp 116),type:=0,pos:= "law.go:173",after:=#[{ on:=0,ground:=Ground.data },{ on:=13,ground:=Ground.chain },{ on:=0,ground:=Ground.phase },{ on:=1,ground:=Ground.textOnly Departure.lateStores },{ on:=2,ground:=Ground.textOnly Departure.lateStores },{ on:=3,ground:=Ground.textOnly Departure.lateStores },{ on:=4,ground:=Ground.textOnly Departure.lateStores },{ on:=5,ground:=Ground.textOnly Departure.lateStores },{ on:=6,ground:=Ground.textOnly Departure.lateStores },{ on:=7,ground:=Ground.textOnly Departure.lateStores },{ on:=8,ground:=Ground.textOnly Departure.lateStores },{ on:=9,ground:=Ground.textOnly Departure.lateStores },{ on:=10,ground:=Ground.textOnly Departure.lateStores },{ on:=11,ground:=Ground.textOnly Departure.lateStores },{ on:=12,ground:=Ground.textOnly Departure.lateStores },{ on:=13,ground:=Ground.textOnly Departure.lateStoresUnsure },{ on:=14,ground:=Ground.textOnly Departure.lateStores }],guard:=none }) rfl (fun K hK=>?_) AllReadyH.nil
  refine rdyS (r + 2) C' Z _ _ (by rfl) rfl rfl rfl h25' h1c.out HZS.out hcs.rZ ?_; intro W6 hr6 hm6
  refine hK.out _ _ (⟨fun j v hv=>by rw [cell_same (hm6.oth r (row_lt hcs.rD) (by omega))]; exact hcs.rng j v hv,by rw [cell_same (hm6.oth (r + 1) (row_lt hcs.rO) (by omega))]; exact (hcs.c HO.out).2.1⟩) (fun hHeld=>?_)
  clear hK K
  try simp only [Act.put,List.setIfInBounds_toArray,List.set_cons_zero,List.set_cons_succ]
  refine wpAnyH_take (i:=16) (oi:={ dst:=some 7,op:=Op.assign (Operand.tmp 130),type:=4,pos:= "law.go:173",after:=#[{ on:=14,ground:=Ground.data },{ on:=15,ground:=Ground.chain },{ on:=0,ground:=Ground.phase },{ on:=1,ground:=Ground.phase },{ on:=2,ground:=Ground.phase },{ on:=3,ground:=Ground.phase },{ on:=4,ground:=Ground.phase },{ on:=5,ground:=Ground.phase },{ on:=6,ground:=Ground.phase },{ on:=7,ground:=Ground.phase },{ on:=8,ground:=Ground.phase },{ on:=9,ground:=Ground.phase },{ on:=10,ground:=Ground.phase },{ on:=11,ground:=Ground.phase },{ on:=12,ground:=Ground.phase },{ on:=13,ground:=Ground.phase },{ on:=14,ground:=Ground.phase },{ on:=15,ground:=Ground.phase }],guard:=none }) (v:=.bool true) rfl (by kernel_rfl) (by kernel_rfl) (by kernel_rfl) (fun _ _ _ h=>h) (Or.inl ⟨by rfl,?y16⟩) (by assumption) ?_
  case y16=>(intro w hSw; (try dsimp only at hSw); first | (go_simp; done) | (go_simp; with_reducible rfl) | (go_simp; rfl))
  try simp only [Act.put,List.setIfInBounds_toArray,List.set_cons_zero,List.set_cons_succ]
  refine wpAnyH_done (by kernel_rfl) ?_ _
  have hlv:=run_loadVar_mid (P:=Tryz.prog) W6 (r + 2) 0 42 C'.toList _ (fun j v hv=>by rw [cell_of_row _ _ _ _ _ _ hr6]; simpa using hv) Tryz.underlying42 rfl (by rw [Array.length_toList,h25']; exact i53)
  rw [Array.toArray_toList] at hlv
  have hfin:Post w.heap.size W6∧ModS S w W6:=⟨HAF.out.mono _ _ _ HLE.out (HAF.out.keep _ _ _ hpo (ModS.mod hm6 ⟨by omega,by omega⟩)),(hcs.md.trans (ModS.mod hm6 (Or.inr (by omega)))).weak fun k hk e=>by rcases e with e | e; exact e; have:=HRR.out; omega⟩
  go_wp2
  refine bodyPost_ret (v:=.tuple #[.agg C',.bool true]) (by simp [results,Tryz.results41,asAddr,hlv,Result.andThen]) rfl ⟨rfl,hfin⟩
end Go.Proofs.YtiefeeoellagnaaGreatDoor.V
namespace Go.Proofs.YtiefeeoellagnaaGreatDoor.V
open Go.RowKit
open S6 (Laid Lay)
set_option linter.unusedVariables false
set_option linter.unusedSimpArgs false
set_option maxHeartbeats 8000000 in
set_option maxRecDepth 20000 in
theorem members_11 (bv:Nat) (C C' O:Array Value) (tv fv sv:Value) (ts:List ByteArray) (s0:ByteArray) (hs0:ts.headD ⟨#[]⟩=s0) (I N:Int) (bk:Bool) (e n:Int) (S:Nat → Prop) (Post:Nat → World → Prop)
    (h25:C.size=25) (h25':C'.size=25) (h1:C'.all (·.oneCell')=true) (hO:OPK O 11 tv fv sv I N bk) (hl:ts.length * 16 ≤ 140737488351232) (w:World)
    (hts:SRow w tv ts) (hnil:∀ c,tv=.slice none 0 c → c=0) (hS:∀ k,S k → k < w.heap.size) (hot:SOut S tv ts) (hA:Aft w.heap.size Post)
    (hp:∀ B W mv,Below w.heap.size w W → w.heap.size ≤ B → B ≤ W.heap.size → SRow W mv ts → SOut (fun k=>k < w.heap.size) mv ts → Calls Tryz.prog 103 #[.pointer (some ⟨bv,0,none⟩),mv] W fun x w'=>x=.returned (.tuple #[.int .i64 n,.int .i64 e])∧Post B w'∧ModS S W w')
    (hd:∀ W,SRow W tv ts → ModS (fun k=>S k ∨ w.heap.size ≤ k) w W → Calls Tryz.prog 104 #[.agg C,tv] W fun x w'=>x=.returned (.tuple #[.agg C',.int .i64 n,.int .i64 e])∧Below W.heap.size W w') :
    Calls Tryz.prog 41 #[.pointer (some ⟨bv,0,none⟩),.agg C,.agg O] w fun x w'=>x=.returned (.tuple #[.agg C',.bool true])∧Post w.heap.size w'∧ModS S w w':=by
  obtain ⟨Z,hZ⟩:∃ Z,Z=zC:=⟨_,rfl⟩
  have HZZ:Hid (Z=zC):=hZ
  have HZS:Hid (Z.size=25):=by rw [hZ]; rfl
  clear hZ
  obtain ⟨W1,hW1⟩:∃ W1,W1=((w.alloc (.cells C 42)).alloc (.cells O 53)).alloc (.cells Z 42):=⟨_,rfl⟩
  obtain ⟨r,hr⟩:∃ r,w.heap.size=r:=⟨_,rfl⟩
  have HRR:Hid (w.heap.size=r):=hr
  have HB1:Hid (Below w.heap.size w W1):=by rw [hW1]; exact (three_rows _ _ _).1
  have HW1:Hid (W1.heap.size=r + 3):=by show W1.heap.size=r + 3; rw [hW1,← hr]; simp [World.size_alloc]
  have HT:Hid (SOut (fun k=>S k ∨ r ≤ k) tv ts):=by
    rcases hts with ⟨rfl,_⟩ | ⟨g,o,c,rfl,hc⟩
    · exact Or.inl rfl
    · rcases hot with h0 | ⟨g',o',c',he,hn⟩
      · exact Or.inl h0
      · by_cases h0:ts=[]
        · exact Or.inl h0
        · injection he with he _ _
          injection he with he
          injection he with he _ _
          subst he
          have hlt:0 < ts.length:=List.length_pos_iff.2 h0
          have hb:=World.block_lt_of_cell? w _ (hc 0 hlt)
          refine Or.inr ⟨g,o,c,rfl,fun e=>?_⟩
          rcases e with e | e
          · exact hn e
          · rw [← hr] at e
            have hb':g < w.heap.size:=hb
            omega
  have HCS:Hid (∀ mv W,SRow W mv ts → SOut (fun k=>k < r + 3) mv ts → Below W1.heap.size W1 W → CS w S r O Z mv tv ts C W):=fun mv W hm hom hb=>by
    have h3:=three_rows (w:=w) (.cells C 42) (.cells O 53) (.cells Z 42)
    rw [← hW1,hr] at h3
    obtain ⟨g1,g2,g3,g4⟩:=h3
    exact ⟨keep_row g2 hb,keep_row g3 hb,keep_row g4 hb,hm,(hts.on HB1.out).on hb,hom,HT.out,fun k e=>by rw [← hr]; exact hS k e,ModS.of (HB1.out.trans (hb.mono HB1.out.size))⟩
  have HTW:Hid (Calls Tryz.prog 26 #[tv] W1 fun e w'=>∃ v',e=.returned v'∧SRow w' v' ts∧SOut (fun k=>k < W1.heap.size) v' ts∧Below W1.heap.size W1 w'):=twin_fresh tv ts hl W1 (hts.on HB1.out) hnil
  have HSM:Hid (∀ W mv,SRow W mv ts → SRow W tv ts → Calls Tryz.prog 34 #[mv,tv] W fun e w'=>e=.returned (.bool true)∧Below W.heap.size W w'):=fun W mv a b=>(sameT_any mv tv ts ts (by omega) (by omega) W a b).mono fun x w' hx=>by
    obtain ⟨⟨b,rfl,hb⟩,k,rfl⟩:=hx
    rw [hb.2 rfl]
    exact ⟨rfl,below_dn (Below.refl _ _) k⟩
  have HONE:Hid (∀ W,SRow W tv ts → Calls Tryz.prog 28 #[tv] W fun e w'=>e=.returned (.string s0)∧Below W.heap.size W w'):=fun W a=>by rw [← hs0]; exact one_any tv ts W a
  have HO:Hid _:=hO
  have HP:Hid _:=hp
  have HD:Hid _:=hd
  rw [hr] at HD
  have HAF:Hid (Aft r Post):=by rw [← hr]; exact hA
  have HLE:Hid (w.heap.size ≤ r + 3):=by show _ ≤ _; omega
  have HSZ:Hid (∀ W,Below W1.heap.size W1 W → r + 3 ≤ W.heap.size):=fun W hb=>by have:=hb.size; rw [HW1.out] at this; exact this
  have HUP:Hid (∀ W,Below W1.heap.size W1 W → Below w.heap.size w W):=fun W hb=>HB1.out.trans (hb.mono HB1.out.size)
  have HC1:Hid (W1.cell? ⟨r + 1,1,none⟩=some tv):=by
    have h3:=three_rows (w:=w) (.cells C 42) (.cells O 53) (.cells Z 42)
    rw [← hW1,hr] at h3
    exact (cellC h3.2.2.1).trans hO.2.2.1
  have h1c:Hid _:=h1
  clear hs0 hts hnil hS hot hA hp hd hr hO h1 hl
  go_enter Tryz.func41,Tryz.ntmps41
  go_upto_region 1 with (refine alR rfl rfl Z HZZ.out ?_)
  rw [← hW1,HRR.out]
  clear hW1
  have c1:=HC1.out
  go_wp2_with fail
  refine (show Calls _ _ _ _ _ from HTW.out).mono ?_
  rintro x w2 ⟨mv,rfl,hm2,ho2,hbel1⟩
  have hcs:=HCS.out mv w2 hm2 (ho2.weak fun k hk=>by rw [HW1.out]; exact hk) hbel1
  have hbel:=HUP.out _ hbel1
  clear c1 hm2 ho2
  obtain ⟨c0,c1,c2,c3,c4,c5,c6⟩:=hcs.c HO.out
  go_wp2_with fail
  refine (show Calls _ _ _ _ _ from HP.out _ _ _ hbel HLE.out (HSZ.out _ hbel1) hcs.m (hcs.om.weak (fun k hk=>by have:=HRR.out; omega))).mono ?_; rintro x wp ⟨rfl,hpo,hmp⟩; have hcs:=hcs.mod hmp
  clear hbel hbel1
  clear c0 c1 c2 c3 c4 c5 c6
  obtain ⟨c0,c1,c2,c3,c4,c5,c6⟩:=hcs.c HO.out
  go_wp2_with (refine ldR C r _ (by rfl) rfl rfl hcs.rng h25 ?_)
  refine (show Calls _ _ _ _ _ from HD.out _ hcs.t hcs.md).mono ?_; rintro x wd ⟨rfl,hbd⟩; have hpo:=HAF.out.on hpo hbd; have hcs:=hcs.on hbd
  clear c0 c1 c2 c3 c4 c5 c6
  go_wp2_with (refine stR rfl _ _ rfl r C' C rfl rfl h25' h1c.out h25 hcs.rD ?_; intro W5 hr5 hm5)
  have hpo:=HAF.out.keep _ _ _ hpo (ModS.mod hm5 ⟨Nat.le_refl _,by omega⟩)
  have hcs:=hcs.set hr5 hm5
  have hpo:=HAF.out.on hpo (Below.refl _ _).drew
  have hcs:=hcs.on (Below.refl _ _).drew
  refine wp_region_held_drew (S:=fun W:World=>W.rangeAt r 0 C'.toList∧W.cell? ⟨r + 1,1,none⟩=some tv) (by kernel_rfl) (⟨hcs.rng,(hcs.c HO.out).2.1⟩) (fun hHeld=>?_)
  refine wpAnyH_take (i:=0) (oi:={ dst:=some 116,op:=Op.load 42 (Operand.tmp 4),type:=42,pos:= "law.go:173",after:=#[],guard:=none }) (v:=.agg C') rfl (by kernel_rfl) (by kernel_rfl) (by kernel_rfl) (fun _ _ _ h=>h) (yl53 C' r _ rfl rfl (fun _ h=>h.1) h25') (by assumption) ?_
  try simp only [Act.put,List.setIfInBounds_toArray,List.set_cons_zero,List.set_cons_succ]
  refine wpAnyH_take (i:=1) (oi:={ dst:=some 117,op:=Op.move (Operand.tmp 9),type:=3,pos:= "law.go:173",after:=#[],guard:=none }) (v:=.int .i64 n) rfl (by kernel_rfl) (by kernel_rfl) (by kernel_rfl) (fun _ _ _ h=>h) (Or.inl ⟨by rfl,?y1⟩) (by assumption) ?_
  case y1=>(intro w hSw; (try dsimp only at hSw); first | (go_simp; done) | (go_simp; with_reducible rfl) | (go_simp; rfl))
  try simp only [Act.put,List.setIfInBounds_toArray,List.set_cons_zero,List.set_cons_succ]
  refine wpAnyH_take (i:=2) (oi:={ dst:=some 118,op:=Op.move (Operand.tmp 10),type:=3,pos:= "law.go:173",after:=#[],guard:=none }) (v:=.int .i64 n) rfl (by kernel_rfl) (by kernel_rfl) (by kernel_rfl) (fun _ _ _ h=>h) (Or.inl ⟨by rfl,?y2⟩) (by assumption) ?_
  case y2=>(intro w hSw; (try dsimp only at hSw); first | (go_simp; done) | (go_simp; with_reducible rfl) | (go_simp; rfl))
  try simp only [Act.put,List.setIfInBounds_toArray,List.set_cons_zero,List.set_cons_succ]
  refine wpAnyH_take (i:=3) (oi:={ dst:=some 119,op:=Op.binOp BinOp.eql 3 (Operand.tmp 117) (Operand.tmp 118) 3,type:=4,pos:= "law.go:173",after:=#[{ on:=1,ground:=Ground.data },{ on:=2,ground:=Ground.data }],guard:=none }) (v:=.bool true) rfl (by kernel_rfl) (by kernel_rfl) (by kernel_rfl) (fun _ _ _ h=>h) (Or.inl ⟨by rfl,?y3⟩) (by assumption) ?_
  case y3=>(intro w hSw; (try dsimp only at hSw); first | (go_simp; done) | (go_simp; with_reducible rfl) | (go_simp; rfl))
  try simp only [Act.put,List.setIfInBounds_toArray,List.set_cons_zero,List.set_cons_succ]
  refine wpAnyH_take (i:=4) (oi:={ dst:=some 120,op:=Op.move (Operand.tmp 119),type:=4,pos:= "law.go:173",after:=#[{ on:=3,ground:=Ground.data }],guard:=none }) (v:=.bool true) rfl (by kernel_rfl) (by kernel_rfl) (by kernel_rfl) (fun _ _ _ h=>h) (Or.inl ⟨by rfl,?y4⟩) (by assumption) ?_
  case y4=>(intro w hSw; (try dsimp only at hSw); first | (go_simp; done) | (go_simp; with_reducible rfl) | (go_simp; rfl))
  try simp only [Act.put,List.setIfInBounds_toArray,List.set_cons_zero,List.set_cons_succ]
  refine wpAnyH_take (i:=5) (oi:={ dst:=some 121,op:=Op.move (Operand.tmp 12),type:=28,pos:= "law.go:173",after:=#[{ on:=4,ground:=Ground.guard }],guard:=some (4,true) }) (v:=.int .i64 e) rfl (by kernel_rfl) (by kernel_rfl) (by kernel_rfl) (fun _ _ _ h=>h) (Or.inl ⟨by rfl,?y5⟩) (by assumption) ?_
  case y5=>(intro w hSw; (try dsimp only at hSw); first | (go_simp; done) | (go_simp; with_reducible rfl) | (go_simp; rfl))
  try simp only [Act.put,List.setIfInBounds_toArray,List.set_cons_zero,List.set_cons_succ]
  refine wpAnyH_take (i:=6) (oi:={ dst:=some 122,op:=Op.move (Operand.tmp 11),type:=3,pos:= "law.go:173",after:=#[{ on:=4,ground:=Ground.guard }],guard:=some (4,true) }) (v:=.int .i64 e) rfl (by kernel_rfl) (by kernel_rfl) (by kernel_rfl) (fun _ _ _ h=>h) (Or.inl ⟨by rfl,?y6⟩) (by assumption) ?_
  case y6=>(intro w hSw; (try dsimp only at hSw); first | (go_simp; done) | (go_simp; with_reducible rfl) | (go_simp; rfl))
  try simp only [Act.put,List.setIfInBounds_toArray,List.set_cons_zero,List.set_cons_succ]
  refine wpAnyH_take (i:=7) (oi:={ dst:=some 123,op:=Op.binOp BinOp.eql 3 (Operand.tmp 121) (Operand.tmp 122) 3,type:=4,pos:= "law.go:173",after:=#[{ on:=5,ground:=Ground.data },{ on:=6,ground:=Ground.data },{ on:=4,ground:=Ground.guard }],guard:=some (4,true) }) (v:=.bool true) rfl (by kernel_rfl) (by kernel_rfl) (by kernel_rfl) (fun _ _ _ h=>h) (Or.inl ⟨by rfl,?y7⟩) (by assumption) ?_
  case y7=>(intro w hSw; (try dsimp only at hSw); first | (go_simp; done) | (go_simp; with_reducible rfl) | (go_simp; rfl))
  try simp only [Act.put,List.setIfInBounds_toArray,List.set_cons_zero,List.set_cons_succ]
  refine wpAnyH_take (i:=8) (oi:={ dst:=some 124,op:=Op.pick (Operand.tmp 120) (Operand.tmp 123) (Operand.const (Value.bool false)),type:=4,pos:= "law.go:173",after:=#[{ on:=4,ground:=Ground.data },{ on:=7,ground:=Ground.data }],guard:=none }) (v:=.bool true) rfl (by kernel_rfl) (by kernel_rfl) (by kernel_rfl) (fun _ _ _ h=>h) (Or.inl ⟨by rfl,?y8⟩) (by assumption) ?_
  case y8=>(intro w hSw; (try dsimp only at hSw); first | (go_simp; done) | (go_simp; with_reducible rfl) | (go_simp; rfl))
  try simp only [Act.put,List.setIfInBounds_toArray,List.set_cons_zero,List.set_cons_succ]
  refine wpAnyH_take (i:=9) (oi:={ dst:=some 125,op:=Op.move (Operand.tmp 124),type:=4,pos:= "law.go:173",after:=#[{ on:=8,ground:=Ground.data },{ on:=4,ground:=Ground.chain }],guard:=none }) (v:=.bool true) rfl (by kernel_rfl) (by kernel_rfl) (by kernel_rfl) (fun _ _ _ h=>h) (Or.inl ⟨by rfl,?y9⟩) (by assumption) ?_
  case y9=>(intro w hSw; (try dsimp only at hSw); first | (go_simp; done) | (go_simp; with_reducible rfl) | (go_simp; rfl))
  try simp only [Act.put,List.setIfInBounds_toArray,List.set_cons_zero,List.set_cons_succ]
  refine wpAnyH_take (i:=10) (oi:={ dst:=some 126,op:=Op.move (Operand.tmp 8),type:=34,pos:= "law.go:173",after:=#[{ on:=9,ground:=Ground.guard }],guard:=some (9,true) }) (v:=mv) rfl (by kernel_rfl) (by kernel_rfl) (by kernel_rfl) (fun _ _ _ h=>h) (Or.inl ⟨by rfl,?y10⟩) (by assumption) ?_
  case y10=>(intro w hSw; (try dsimp only at hSw); first | (go_simp; done) | (go_simp; with_reducible rfl) | (go_simp; rfl))
  try simp only [Act.put,List.setIfInBounds_toArray,List.set_cons_zero,List.set_cons_succ]
  refine wpAnyH_take (i:=11) (oi:={ dst:=some 127,op:=Op.fieldAddr 53 (Operand.tmp 5) 1,type:=0,pos:= "law.go:173",after:=#[{ on:=9,ground:=Ground.guard }],guard:=some (9,true) }) (v:=.pointer (some ⟨r + 1,1,none⟩)) rfl (by kernel_rfl) (by kernel_rfl) (by kernel_rfl) (fun _ _ _ h=>h) (Or.inl ⟨by rfl,?y11⟩) (by assumption) ?_
  case y11=>(intro w hSw; (try dsimp only at hSw); first | (go_simp; done) | (go_simp; with_reducible rfl) | (go_simp; rfl))
  try simp only [Act.put,List.setIfInBounds_toArray,List.set_cons_zero,List.set_cons_succ]
  refine wpAnyH_take (i:=12) (oi:={ dst:=some 128,op:=Op.load 34 (Operand.tmp 127),type:=34,pos:= "law.go:173",after:=#[{ on:=11,ground:=Ground.data },{ on:=9,ground:=Ground.guard }],guard:=some (9,true) }) (v:=tv) rfl (by kernel_rfl) (by kernel_rfl) (by kernel_rfl) (fun _ _ _ h=>h) (Or.inl ⟨by rfl,?y12⟩) (by assumption) ?_
  case y12=>(intro w hSw; (try dsimp only at hSw); first | (go_simp; done) | (go_simp; with_reducible rfl) | (go_simp; rfl))
  try simp only [Act.put,List.setIfInBounds_toArray,List.set_cons_zero,List.set_cons_succ]
  refine wpAnyH_ready (rs:=[13]) (by kernel_rfl) (by simp) ?_
  refine AllReadyH.cons (o:={ dst:=some 129,op:=Op.call { callee:=Callee.value (Operand.func 34),args:=#[Operand.tmp 126,Operand.tmp 128],argTypes:=#[34,34] },type:=4,pos:= "law.go:173",after:=#[{ on:=10,ground:=Ground.data },{ on:=12,ground:=Ground.data },{ on:=9,ground:=Ground.chain },{ on:=9,ground:=Ground.guard }],guard:=some (9,true) }) rfl (fun K hK=>?_) AllReadyH.nil
  first | (go_at_call 34; refine (show Calls _ _ _ _ _ from HSM.out _ _ hcs.m hcs.t).mono ?_; rintro x ws ⟨rfl,hbs⟩; have hpo:=HAF.out.on hpo hbs; have hcs:=hcs.on hbs) | (go_simp; go_at_call 34; refine (show Calls _ _ _ _ _ from HSM.out _ _ hcs.m hcs.t).mono ?_; rintro x ws ⟨rfl,hbs⟩; have hpo:=HAF.out.on hpo hbs; have hcs:=hcs.on hbs)
  refine hK.out _ _ (⟨hcs.rng,(hcs.c HO.out).2.1⟩) (fun hHeld=>?_)
  clear hK K
  try simp only [Act.put,List.setIfInBounds_toArray,List.set_cons_zero,List.set_cons_succ]
  refine wpAnyH_take (i:=14) (oi:={ dst:=some 130,op:=Op.pick (Operand.tmp 125) (Operand.tmp 129) (Operand.const (Value.bool false)),type:=4,pos:= "law.go:173",after:=#[{ on:=9,ground:=Ground.data },{ on:=13,ground:=Ground.data },{ on:=15,ground:=Ground.gcOnly Departure.lateStores }],guard:=none }) (v:=.bool true) rfl (by kernel_rfl) (by kernel_rfl) (by kernel_rfl) (fun _ _ _ h=>h) (Or.inl ⟨by rfl,?y14⟩) (by assumption) ?_
  case y14=>(intro w hSw; (try dsimp only at hSw); first | (go_simp; done) | (go_simp; with_reducible rfl) | (go_simp; rfl))
  try simp only [Act.put,List.setIfInBounds_toArray,List.set_cons_zero,List.set_cons_succ]
  refine wpAnyH_ready (rs:=[15]) (by kernel_rfl) (by simp) ?_
  refine AllReadyH.cons (o:={ dst:=none,op:=Op.store 42 (Operand.tmp 6) (Operand.tmp 116),type:=0,pos:= "law.go:173",after:=#[{ on:=0,ground:=Ground.data },{ on:=13,ground:=Ground.chain },{ on:=0,ground:=Ground.phase },{ on:=1,ground:=Ground.textOnly Departure.lateStores },{ on:=2,ground:=Ground.textOnly Departure.lateStores },{ on:=3,ground:=Ground.textOnly Departure.lateStores },{ on:=4,ground:=Ground.textOnly Departure.lateStores },{ on:=5,ground:=Ground.textOnly Departure.lateStores },{ on:=6,ground:=Ground.textOnly Departure.lateStores },{ on:=7,ground:=Ground.textOnly Departure.lateStores },{ on:=8,ground:=Ground.textOnly Departure.lateStores },{ on:=9,ground:=Ground.textOnly Departure.lateStores },{ on:=10,ground:=Ground.textOnly Departure.lateStores },{ on:=11,ground:=Ground.textOnly Departure.lateStores },{ on:=12,ground:=Ground.textOnly Departure.lateStores },{ on:=13,ground:=Ground.textOnly Departure.lateStoresUnsure },{ on:=14,ground:=Ground.textOnly Departure.lateStores }],guard:=none }) rfl (fun K hK=>?_) AllReadyH.nil
  refine rdyS (r + 2) C' Z _ _ (by rfl) rfl rfl rfl h25' h1c.out HZS.out hcs.rZ ?_; intro W6 hr6 hm6
  refine hK.out _ _ (⟨fun j v hv=>by rw [cell_same (hm6.oth r (row_lt hcs.rD) (by omega))]; exact hcs.rng j v hv,by rw [cell_same (hm6.oth (r + 1) (row_lt hcs.rO) (by omega))]; exact (hcs.c HO.out).2.1⟩) (fun hHeld=>?_)
  clear hK K
  try simp only [Act.put,List.setIfInBounds_toArray,List.set_cons_zero,List.set_cons_succ]
  refine wpAnyH_take (i:=16) (oi:={ dst:=some 7,op:=Op.assign (Operand.tmp 130),type:=4,pos:= "law.go:173",after:=#[{ on:=14,ground:=Ground.data },{ on:=15,ground:=Ground.chain },{ on:=0,ground:=Ground.phase },{ on:=1,ground:=Ground.phase },{ on:=2,ground:=Ground.phase },{ on:=3,ground:=Ground.phase },{ on:=4,ground:=Ground.phase },{ on:=5,ground:=Ground.phase },{ on:=6,ground:=Ground.phase },{ on:=7,ground:=Ground.phase },{ on:=8,ground:=Ground.phase },{ on:=9,ground:=Ground.phase },{ on:=10,ground:=Ground.phase },{ on:=11,ground:=Ground.phase },{ on:=12,ground:=Ground.phase },{ on:=13,ground:=Ground.phase },{ on:=14,ground:=Ground.phase },{ on:=15,ground:=Ground.phase }],guard:=none }) (v:=.bool true) rfl (by kernel_rfl) (by kernel_rfl) (by kernel_rfl) (fun _ _ _ h=>h) (Or.inl ⟨by rfl,?y16⟩) (by assumption) ?_
  case y16=>(intro w hSw; (try dsimp only at hSw); first | (go_simp; done) | (go_simp; with_reducible rfl) | (go_simp; rfl))
  try simp only [Act.put,List.setIfInBounds_toArray,List.set_cons_zero,List.set_cons_succ]
  refine wpAnyH_done (by kernel_rfl) ?_ _
  have hlv:=run_loadVar_mid (P:=Tryz.prog) W6 (r + 2) 0 42 C'.toList _ (fun j v hv=>by rw [cell_of_row _ _ _ _ _ _ hr6]; simpa using hv) Tryz.underlying42 rfl (by rw [Array.length_toList,h25']; exact i53)
  rw [Array.toArray_toList] at hlv
  have hfin:Post w.heap.size W6∧ModS S w W6:=⟨HAF.out.mono _ _ _ HLE.out (HAF.out.keep _ _ _ hpo (ModS.mod hm6 ⟨by omega,by omega⟩)),(hcs.md.trans (ModS.mod hm6 (Or.inr (by omega)))).weak fun k hk e=>by rcases e with e | e; exact e; have:=HRR.out; omega⟩
  go_wp2
  refine bodyPost_ret (v:=.tuple #[.agg C',.bool true]) (by simp [results,Tryz.results41,asAddr,hlv,Result.andThen]) rfl ⟨rfl,hfin⟩
end Go.Proofs.YtiefeeoellagnaaGreatDoor.V
namespace Go.Proofs.YtiefeeoellagnaaGreatDoor.V
open Go.RowKit
open S6 (Laid Lay)
set_option linter.unusedVariables false
set_option linter.unusedSimpArgs false
set_option maxHeartbeats 8000000 in
set_option maxRecDepth 20000 in
theorem members_8 (bv:Nat) (C C' O:Array Value) (tv fv sv:Value) (ts:List ByteArray) (s0:ByteArray) (hs0:ts.headD ⟨#[]⟩=s0) (I N:Int) (bk:Bool) (e n:Int) (S:Nat → Prop) (Post:Nat → World → Prop)
    (h25:C.size=25) (h25':C'.size=25) (h1:C'.all (·.oneCell')=true) (hO:OPK O 8 tv fv sv I N bk) (hl:ts.length * 16 ≤ 140737488351232) (w:World)
    (hts:SRow w tv ts) (hnil:∀ c,tv=.slice none 0 c → c=0) (hS:∀ k,S k → k < w.heap.size) (hot:SOut S tv ts) (hA:Aft w.heap.size Post)
    (hp:∀ B W mv,Below w.heap.size w W → w.heap.size ≤ B → B ≤ W.heap.size → SRow W mv ts → SOut (fun k=>k < w.heap.size) mv ts → Calls Tryz.prog 22 #[.pointer (some ⟨bv,0,none⟩),fv] W fun x w'=>x=.returned (.tuple #[.int .i64 n,.int .i64 e])∧Post B w'∧ModS S W w')
    (hd:∀ W,SRow W tv ts → ModS (fun k=>S k ∨ w.heap.size ≤ k) w W → Calls Tryz.prog 98 #[.agg C,fv] W fun x w'=>x=.returned (.tuple #[.agg C',.int .i64 n,.int .i64 e])∧Below W.heap.size W w') :
    Calls Tryz.prog 41 #[.pointer (some ⟨bv,0,none⟩),.agg C,.agg O] w fun x w'=>x=.returned (.tuple #[.agg C',.bool true])∧Post w.heap.size w'∧ModS S w w':=by
  obtain ⟨Z,hZ⟩:∃ Z,Z=zC:=⟨_,rfl⟩
  have HZZ:Hid (Z=zC):=hZ
  have HZS:Hid (Z.size=25):=by rw [hZ]; rfl
  clear hZ
  obtain ⟨W1,hW1⟩:∃ W1,W1=((w.alloc (.cells C 42)).alloc (.cells O 53)).alloc (.cells Z 42):=⟨_,rfl⟩
  obtain ⟨r,hr⟩:∃ r,w.heap.size=r:=⟨_,rfl⟩
  have HRR:Hid (w.heap.size=r):=hr
  have HB1:Hid (Below w.heap.size w W1):=by rw [hW1]; exact (three_rows _ _ _).1
  have HW1:Hid (W1.heap.size=r + 3):=by show W1.heap.size=r + 3; rw [hW1,← hr]; simp [World.size_alloc]
  have HT:Hid (SOut (fun k=>S k ∨ r ≤ k) tv ts):=by
    rcases hts with ⟨rfl,_⟩ | ⟨g,o,c,rfl,hc⟩
    · exact Or.inl rfl
    · rcases hot with h0 | ⟨g',o',c',he,hn⟩
      · exact Or.inl h0
      · by_cases h0:ts=[]
        · exact Or.inl h0
        · injection he with he _ _
          injection he with he
          injection he with he _ _
          subst he
          have hlt:0 < ts.length:=List.length_pos_iff.2 h0
          have hb:=World.block_lt_of_cell? w _ (hc 0 hlt)
          refine Or.inr ⟨g,o,c,rfl,fun e=>?_⟩
          rcases e with e | e
          · exact hn e
          · rw [← hr] at e
            have hb':g < w.heap.size:=hb
            omega
  have HCS:Hid (∀ mv W,SRow W mv ts → SOut (fun k=>k < r + 3) mv ts → Below W1.heap.size W1 W → CS w S r O Z mv tv ts C W):=fun mv W hm hom hb=>by
    have h3:=three_rows (w:=w) (.cells C 42) (.cells O 53) (.cells Z 42)
    rw [← hW1,hr] at h3
    obtain ⟨g1,g2,g3,g4⟩:=h3
    exact ⟨keep_row g2 hb,keep_row g3 hb,keep_row g4 hb,hm,(hts.on HB1.out).on hb,hom,HT.out,fun k e=>by rw [← hr]; exact hS k e,ModS.of (HB1.out.trans (hb.mono HB1.out.size))⟩
  have HTW:Hid (Calls Tryz.prog 26 #[tv] W1 fun e w'=>∃ v',e=.returned v'∧SRow w' v' ts∧SOut (fun k=>k < W1.heap.size) v' ts∧Below W1.heap.size W1 w'):=twin_fresh tv ts hl W1 (hts.on HB1.out) hnil
  have HSM:Hid (∀ W mv,SRow W mv ts → SRow W tv ts → Calls Tryz.prog 34 #[mv,tv] W fun e w'=>e=.returned (.bool true)∧Below W.heap.size W w'):=fun W mv a b=>(sameT_any mv tv ts ts (by omega) (by omega) W a b).mono fun x w' hx=>by
    obtain ⟨⟨b,rfl,hb⟩,k,rfl⟩:=hx
    rw [hb.2 rfl]
    exact ⟨rfl,below_dn (Below.refl _ _) k⟩
  have HONE:Hid (∀ W,SRow W tv ts → Calls Tryz.prog 28 #[tv] W fun e w'=>e=.returned (.string s0)∧Below W.heap.size W w'):=fun W a=>by rw [← hs0]; exact one_any tv ts W a
  have HO:Hid _:=hO
  have HP:Hid _:=hp
  have HD:Hid _:=hd
  rw [hr] at HD
  have HAF:Hid (Aft r Post):=by rw [← hr]; exact hA
  have HLE:Hid (w.heap.size ≤ r + 3):=by show _ ≤ _; omega
  have HSZ:Hid (∀ W,Below W1.heap.size W1 W → r + 3 ≤ W.heap.size):=fun W hb=>by have:=hb.size; rw [HW1.out] at this; exact this
  have HUP:Hid (∀ W,Below W1.heap.size W1 W → Below w.heap.size w W):=fun W hb=>HB1.out.trans (hb.mono HB1.out.size)
  have HC1:Hid (W1.cell? ⟨r + 1,1,none⟩=some tv):=by
    have h3:=three_rows (w:=w) (.cells C 42) (.cells O 53) (.cells Z 42)
    rw [← hW1,hr] at h3
    exact (cellC h3.2.2.1).trans hO.2.2.1
  have h1c:Hid _:=h1
  clear hs0 hts hnil hS hot hA hp hd hr hO h1 hl
  go_enter Tryz.func41,Tryz.ntmps41
  go_upto_region 1 with (refine alR rfl rfl Z HZZ.out ?_)
  rw [← hW1,HRR.out]
  clear hW1
  have c1:=HC1.out
  go_wp2_with fail
  refine (show Calls _ _ _ _ _ from HTW.out).mono ?_
  rintro x w2 ⟨mv,rfl,hm2,ho2,hbel1⟩
  have hcs:=HCS.out mv w2 hm2 (ho2.weak fun k hk=>by rw [HW1.out]; exact hk) hbel1
  have hbel:=HUP.out _ hbel1
  clear c1 hm2 ho2
  obtain ⟨c0,c1,c2,c3,c4,c5,c6⟩:=hcs.c HO.out
  go_wp2_with fail
  refine (show Calls _ _ _ _ _ from HP.out _ _ _ hbel HLE.out (HSZ.out _ hbel1) hcs.m (hcs.om.weak (fun k hk=>by have:=HRR.out; omega))).mono ?_; rintro x wp ⟨rfl,hpo,hmp⟩; have hcs:=hcs.mod hmp
  clear hbel hbel1
  clear c0 c1 c2 c3 c4 c5 c6
  obtain ⟨c0,c1,c2,c3,c4,c5,c6⟩:=hcs.c HO.out
  go_wp2_with (refine ldR C r _ (by rfl) rfl rfl hcs.rng h25 ?_)
  refine (show Calls _ _ _ _ _ from HD.out _ hcs.t hcs.md).mono ?_; rintro x wd ⟨rfl,hbd⟩; have hpo:=HAF.out.on hpo hbd; have hcs:=hcs.on hbd
  clear c0 c1 c2 c3 c4 c5 c6
  go_wp2_with (refine stR rfl _ _ rfl r C' C rfl rfl h25' h1c.out h25 hcs.rD ?_; intro W5 hr5 hm5)
  have hpo:=HAF.out.keep _ _ _ hpo (ModS.mod hm5 ⟨Nat.le_refl _,by omega⟩)
  have hcs:=hcs.set hr5 hm5
  have hpo:=HAF.out.on hpo (Below.refl _ _).drew
  have hcs:=hcs.on (Below.refl _ _).drew
  refine wp_region_held_drew (S:=fun W:World=>W.rangeAt r 0 C'.toList∧W.cell? ⟨r + 1,1,none⟩=some tv) (by kernel_rfl) (⟨hcs.rng,(hcs.c HO.out).2.1⟩) (fun hHeld=>?_)
  refine wpAnyH_take (i:=0) (oi:={ dst:=some 116,op:=Op.load 42 (Operand.tmp 4),type:=42,pos:= "law.go:173",after:=#[],guard:=none }) (v:=.agg C') rfl (by kernel_rfl) (by kernel_rfl) (by kernel_rfl) (fun _ _ _ h=>h) (yl53 C' r _ rfl rfl (fun _ h=>h.1) h25') (by assumption) ?_
  try simp only [Act.put,List.setIfInBounds_toArray,List.set_cons_zero,List.set_cons_succ]
  refine wpAnyH_take (i:=1) (oi:={ dst:=some 117,op:=Op.move (Operand.tmp 9),type:=3,pos:= "law.go:173",after:=#[],guard:=none }) (v:=.int .i64 n) rfl (by kernel_rfl) (by kernel_rfl) (by kernel_rfl) (fun _ _ _ h=>h) (Or.inl ⟨by rfl,?y1⟩) (by assumption) ?_
  case y1=>(intro w hSw; (try dsimp only at hSw); first | (go_simp; done) | (go_simp; with_reducible rfl) | (go_simp; rfl))
  try simp only [Act.put,List.setIfInBounds_toArray,List.set_cons_zero,List.set_cons_succ]
  refine wpAnyH_take (i:=2) (oi:={ dst:=some 118,op:=Op.move (Operand.tmp 10),type:=3,pos:= "law.go:173",after:=#[],guard:=none }) (v:=.int .i64 n) rfl (by kernel_rfl) (by kernel_rfl) (by kernel_rfl) (fun _ _ _ h=>h) (Or.inl ⟨by rfl,?y2⟩) (by assumption) ?_
  case y2=>(intro w hSw; (try dsimp only at hSw); first | (go_simp; done) | (go_simp; with_reducible rfl) | (go_simp; rfl))
  try simp only [Act.put,List.setIfInBounds_toArray,List.set_cons_zero,List.set_cons_succ]
  refine wpAnyH_take (i:=3) (oi:={ dst:=some 119,op:=Op.binOp BinOp.eql 3 (Operand.tmp 117) (Operand.tmp 118) 3,type:=4,pos:= "law.go:173",after:=#[{ on:=1,ground:=Ground.data },{ on:=2,ground:=Ground.data }],guard:=none }) (v:=.bool true) rfl (by kernel_rfl) (by kernel_rfl) (by kernel_rfl) (fun _ _ _ h=>h) (Or.inl ⟨by rfl,?y3⟩) (by assumption) ?_
  case y3=>(intro w hSw; (try dsimp only at hSw); first | (go_simp; done) | (go_simp; with_reducible rfl) | (go_simp; rfl))
  try simp only [Act.put,List.setIfInBounds_toArray,List.set_cons_zero,List.set_cons_succ]
  refine wpAnyH_take (i:=4) (oi:={ dst:=some 120,op:=Op.move (Operand.tmp 119),type:=4,pos:= "law.go:173",after:=#[{ on:=3,ground:=Ground.data }],guard:=none }) (v:=.bool true) rfl (by kernel_rfl) (by kernel_rfl) (by kernel_rfl) (fun _ _ _ h=>h) (Or.inl ⟨by rfl,?y4⟩) (by assumption) ?_
  case y4=>(intro w hSw; (try dsimp only at hSw); first | (go_simp; done) | (go_simp; with_reducible rfl) | (go_simp; rfl))
  try simp only [Act.put,List.setIfInBounds_toArray,List.set_cons_zero,List.set_cons_succ]
  refine wpAnyH_take (i:=5) (oi:={ dst:=some 121,op:=Op.move (Operand.tmp 12),type:=28,pos:= "law.go:173",after:=#[{ on:=4,ground:=Ground.guard }],guard:=some (4,true) }) (v:=.int .i64 e) rfl (by kernel_rfl) (by kernel_rfl) (by kernel_rfl) (fun _ _ _ h=>h) (Or.inl ⟨by rfl,?y5⟩) (by assumption) ?_
  case y5=>(intro w hSw; (try dsimp only at hSw); first | (go_simp; done) | (go_simp; with_reducible rfl) | (go_simp; rfl))
  try simp only [Act.put,List.setIfInBounds_toArray,List.set_cons_zero,List.set_cons_succ]
  refine wpAnyH_take (i:=6) (oi:={ dst:=some 122,op:=Op.move (Operand.tmp 11),type:=3,pos:= "law.go:173",after:=#[{ on:=4,ground:=Ground.guard }],guard:=some (4,true) }) (v:=.int .i64 e) rfl (by kernel_rfl) (by kernel_rfl) (by kernel_rfl) (fun _ _ _ h=>h) (Or.inl ⟨by rfl,?y6⟩) (by assumption) ?_
  case y6=>(intro w hSw; (try dsimp only at hSw); first | (go_simp; done) | (go_simp; with_reducible rfl) | (go_simp; rfl))
  try simp only [Act.put,List.setIfInBounds_toArray,List.set_cons_zero,List.set_cons_succ]
  refine wpAnyH_take (i:=7) (oi:={ dst:=some 123,op:=Op.binOp BinOp.eql 3 (Operand.tmp 121) (Operand.tmp 122) 3,type:=4,pos:= "law.go:173",after:=#[{ on:=5,ground:=Ground.data },{ on:=6,ground:=Ground.data },{ on:=4,ground:=Ground.guard }],guard:=some (4,true) }) (v:=.bool true) rfl (by kernel_rfl) (by kernel_rfl) (by kernel_rfl) (fun _ _ _ h=>h) (Or.inl ⟨by rfl,?y7⟩) (by assumption) ?_
  case y7=>(intro w hSw; (try dsimp only at hSw); first | (go_simp; done) | (go_simp; with_reducible rfl) | (go_simp; rfl))
  try simp only [Act.put,List.setIfInBounds_toArray,List.set_cons_zero,List.set_cons_succ]
  refine wpAnyH_take (i:=8) (oi:={ dst:=some 124,op:=Op.pick (Operand.tmp 120) (Operand.tmp 123) (Operand.const (Value.bool false)),type:=4,pos:= "law.go:173",after:=#[{ on:=4,ground:=Ground.data },{ on:=7,ground:=Ground.data }],guard:=none }) (v:=.bool true) rfl (by kernel_rfl) (by kernel_rfl) (by kernel_rfl) (fun _ _ _ h=>h) (Or.inl ⟨by rfl,?y8⟩) (by assumption) ?_
  case y8=>(intro w hSw; (try dsimp only at hSw); first | (go_simp; done) | (go_simp; with_reducible rfl) | (go_simp; rfl))
  try simp only [Act.put,List.setIfInBounds_toArray,List.set_cons_zero,List.set_cons_succ]
  refine wpAnyH_take (i:=9) (oi:={ dst:=some 125,op:=Op.move (Operand.tmp 124),type:=4,pos:= "law.go:173",after:=#[{ on:=8,ground:=Ground.data },{ on:=4,ground:=Ground.chain }],guard:=none }) (v:=.bool true) rfl (by kernel_rfl) (by kernel_rfl) (by kernel_rfl) (fun _ _ _ h=>h) (Or.inl ⟨by rfl,?y9⟩) (by assumption) ?_
  case y9=>(intro w hSw; (try dsimp only at hSw); first | (go_simp; done) | (go_simp; with_reducible rfl) | (go_simp; rfl))
  try simp only [Act.put,List.setIfInBounds_toArray,List.set_cons_zero,List.set_cons_succ]
  refine wpAnyH_take (i:=10) (oi:={ dst:=some 126,op:=Op.move (Operand.tmp 8),type:=34,pos:= "law.go:173",after:=#[{ on:=9,ground:=Ground.guard }],guard:=some (9,true) }) (v:=mv) rfl (by kernel_rfl) (by kernel_rfl) (by kernel_rfl) (fun _ _ _ h=>h) (Or.inl ⟨by rfl,?y10⟩) (by assumption) ?_
  case y10=>(intro w hSw; (try dsimp only at hSw); first | (go_simp; done) | (go_simp; with_reducible rfl) | (go_simp; rfl))
  try simp only [Act.put,List.setIfInBounds_toArray,List.set_cons_zero,List.set_cons_succ]
  refine wpAnyH_take (i:=11) (oi:={ dst:=some 127,op:=Op.fieldAddr 53 (Operand.tmp 5) 1,type:=0,pos:= "law.go:173",after:=#[{ on:=9,ground:=Ground.guard }],guard:=some (9,true) }) (v:=.pointer (some ⟨r + 1,1,none⟩)) rfl (by kernel_rfl) (by kernel_rfl) (by kernel_rfl) (fun _ _ _ h=>h) (Or.inl ⟨by rfl,?y11⟩) (by assumption) ?_
  case y11=>(intro w hSw; (try dsimp only at hSw); first | (go_simp; done) | (go_simp; with_reducible rfl) | (go_simp; rfl))
  try simp only [Act.put,List.setIfInBounds_toArray,List.set_cons_zero,List.set_cons_succ]
  refine wpAnyH_take (i:=12) (oi:={ dst:=some 128,op:=Op.load 34 (Operand.tmp 127),type:=34,pos:= "law.go:173",after:=#[{ on:=11,ground:=Ground.data },{ on:=9,ground:=Ground.guard }],guard:=some (9,true) }) (v:=tv) rfl (by kernel_rfl) (by kernel_rfl) (by kernel_rfl) (fun _ _ _ h=>h) (Or.inl ⟨by rfl,?y12⟩) (by assumption) ?_
  case y12=>(intro w hSw; (try dsimp only at hSw); first | (go_simp; done) | (go_simp; with_reducible rfl) | (go_simp; rfl))
  try simp only [Act.put,List.setIfInBounds_toArray,List.set_cons_zero,List.set_cons_succ]
  refine wpAnyH_ready (rs:=[13]) (by kernel_rfl) (by simp) ?_
  refine AllReadyH.cons (o:={ dst:=some 129,op:=Op.call { callee:=Callee.value (Operand.func 34),args:=#[Operand.tmp 126,Operand.tmp 128],argTypes:=#[34,34] },type:=4,pos:= "law.go:173",after:=#[{ on:=10,ground:=Ground.data },{ on:=12,ground:=Ground.data },{ on:=9,ground:=Ground.chain },{ on:=9,ground:=Ground.guard }],guard:=some (9,true) }) rfl (fun K hK=>?_) AllReadyH.nil
  first | (go_at_call 34; refine (show Calls _ _ _ _ _ from HSM.out _ _ hcs.m hcs.t).mono ?_; rintro x ws ⟨rfl,hbs⟩; have hpo:=HAF.out.on hpo hbs; have hcs:=hcs.on hbs) | (go_simp; go_at_call 34; refine (show Calls _ _ _ _ _ from HSM.out _ _ hcs.m hcs.t).mono ?_; rintro x ws ⟨rfl,hbs⟩; have hpo:=HAF.out.on hpo hbs; have hcs:=hcs.on hbs)
  refine hK.out _ _ (⟨hcs.rng,(hcs.c HO.out).2.1⟩) (fun hHeld=>?_)
  clear hK K
  try simp only [Act.put,List.setIfInBounds_toArray,List.set_cons_zero,List.set_cons_succ]
  refine wpAnyH_take (i:=14) (oi:={ dst:=some 130,op:=Op.pick (Operand.tmp 125) (Operand.tmp 129) (Operand.const (Value.bool false)),type:=4,pos:= "law.go:173",after:=#[{ on:=9,ground:=Ground.data },{ on:=13,ground:=Ground.data },{ on:=15,ground:=Ground.gcOnly Departure.lateStores }],guard:=none }) (v:=.bool true) rfl (by kernel_rfl) (by kernel_rfl) (by kernel_rfl) (fun _ _ _ h=>h) (Or.inl ⟨by rfl,?y14⟩) (by assumption) ?_
  case y14=>(intro w hSw; (try dsimp only at hSw); first | (go_simp; done) | (go_simp; with_reducible rfl) | (go_simp; rfl))
  try simp only [Act.put,List.setIfInBounds_toArray,List.set_cons_zero,List.set_cons_succ]
  refine wpAnyH_ready (rs:=[15]) (by kernel_rfl) (by simp) ?_
  refine AllReadyH.cons (o:={ dst:=none,op:=Op.store 42 (Operand.tmp 6) (Operand.tmp 116),type:=0,pos:= "law.go:173",after:=#[{ on:=0,ground:=Ground.data },{ on:=13,ground:=Ground.chain },{ on:=0,ground:=Ground.phase },{ on:=1,ground:=Ground.textOnly Departure.lateStores },{ on:=2,ground:=Ground.textOnly Departure.lateStores },{ on:=3,ground:=Ground.textOnly Departure.lateStores },{ on:=4,ground:=Ground.textOnly Departure.lateStores },{ on:=5,ground:=Ground.textOnly Departure.lateStores },{ on:=6,ground:=Ground.textOnly Departure.lateStores },{ on:=7,ground:=Ground.textOnly Departure.lateStores },{ on:=8,ground:=Ground.textOnly Departure.lateStores },{ on:=9,ground:=Ground.textOnly Departure.lateStores },{ on:=10,ground:=Ground.textOnly Departure.lateStores },{ on:=11,ground:=Ground.textOnly Departure.lateStores },{ on:=12,ground:=Ground.textOnly Departure.lateStores },{ on:=13,ground:=Ground.textOnly Departure.lateStoresUnsure },{ on:=14,ground:=Ground.textOnly Departure.lateStores }],guard:=none }) rfl (fun K hK=>?_) AllReadyH.nil
  refine rdyS (r + 2) C' Z _ _ (by rfl) rfl rfl rfl h25' h1c.out HZS.out hcs.rZ ?_; intro W6 hr6 hm6
  refine hK.out _ _ (⟨fun j v hv=>by rw [cell_same (hm6.oth r (row_lt hcs.rD) (by omega))]; exact hcs.rng j v hv,by rw [cell_same (hm6.oth (r + 1) (row_lt hcs.rO) (by omega))]; exact (hcs.c HO.out).2.1⟩) (fun hHeld=>?_)
  clear hK K
  try simp only [Act.put,List.setIfInBounds_toArray,List.set_cons_zero,List.set_cons_succ]
  refine wpAnyH_take (i:=16) (oi:={ dst:=some 7,op:=Op.assign (Operand.tmp 130),type:=4,pos:= "law.go:173",after:=#[{ on:=14,ground:=Ground.data },{ on:=15,ground:=Ground.chain },{ on:=0,ground:=Ground.phase },{ on:=1,ground:=Ground.phase },{ on:=2,ground:=Ground.phase },{ on:=3,ground:=Ground.phase },{ on:=4,ground:=Ground.phase },{ on:=5,ground:=Ground.phase },{ on:=6,ground:=Ground.phase },{ on:=7,ground:=Ground.phase },{ on:=8,ground:=Ground.phase },{ on:=9,ground:=Ground.phase },{ on:=10,ground:=Ground.phase },{ on:=11,ground:=Ground.phase },{ on:=12,ground:=Ground.phase },{ on:=13,ground:=Ground.phase },{ on:=14,ground:=Ground.phase },{ on:=15,ground:=Ground.phase }],guard:=none }) (v:=.bool true) rfl (by kernel_rfl) (by kernel_rfl) (by kernel_rfl) (fun _ _ _ h=>h) (Or.inl ⟨by rfl,?y16⟩) (by assumption) ?_
  case y16=>(intro w hSw; (try dsimp only at hSw); first | (go_simp; done) | (go_simp; with_reducible rfl) | (go_simp; rfl))
  try simp only [Act.put,List.setIfInBounds_toArray,List.set_cons_zero,List.set_cons_succ]
  refine wpAnyH_done (by kernel_rfl) ?_ _
  have hlv:=run_loadVar_mid (P:=Tryz.prog) W6 (r + 2) 0 42 C'.toList _ (fun j v hv=>by rw [cell_of_row _ _ _ _ _ _ hr6]; simpa using hv) Tryz.underlying42 rfl (by rw [Array.length_toList,h25']; exact i53)
  rw [Array.toArray_toList] at hlv
  have hfin:Post w.heap.size W6∧ModS S w W6:=⟨HAF.out.mono _ _ _ HLE.out (HAF.out.keep _ _ _ hpo (ModS.mod hm6 ⟨by omega,by omega⟩)),(hcs.md.trans (ModS.mod hm6 (Or.inr (by omega)))).weak fun k hk e=>by rcases e with e | e; exact e; have:=HRR.out; omega⟩
  go_wp2
  refine bodyPost_ret (v:=.tuple #[.agg C',.bool true]) (by simp [results,Tryz.results41,asAddr,hlv,Result.andThen]) rfl ⟨rfl,hfin⟩
end Go.Proofs.YtiefeeoellagnaaGreatDoor.V
namespace Go.Proofs.YtiefeeoellagnaaGreatDoor.V
open Go.RowKit
open S6 (Laid Lay)
set_option linter.unusedVariables false
set_option linter.unusedSimpArgs false
set_option maxHeartbeats 8000000 in
set_option maxRecDepth 20000 in
theorem members_9 (bv:Nat) (C C' O:Array Value) (tv fv sv:Value) (ts:List ByteArray) (s0:ByteArray) (hs0:ts.headD ⟨#[]⟩=s0) (I N:Int) (bk:Bool) (e n:Int) (S:Nat → Prop) (Post:Nat → World → Prop)
    (h25:C.size=25) (h25':C'.size=25) (h1:C'.all (·.oneCell')=true) (hO:OPK O 9 tv fv sv I N bk) (hl:ts.length * 16 ≤ 140737488351232) (w:World)
    (hts:SRow w tv ts) (hnil:∀ c,tv=.slice none 0 c → c=0) (hS:∀ k,S k → k < w.heap.size) (hot:SOut S tv ts) (hA:Aft w.heap.size Post)
    (hp:∀ B W mv,Below w.heap.size w W → w.heap.size ≤ B → B ≤ W.heap.size → SRow W mv ts → SOut (fun k=>k < w.heap.size) mv ts → Calls Tryz.prog 99 #[.pointer (some ⟨bv,0,none⟩),mv] W fun x w'=>x=.returned (.tuple #[.int .i64 n,.int .i64 e])∧Post B w'∧ModS S W w')
    (hd:∀ W,SRow W tv ts → ModS (fun k=>S k ∨ w.heap.size ≤ k) w W → Calls Tryz.prog 100 #[.agg C,tv] W fun x w'=>x=.returned (.tuple #[.agg C',.int .i64 n,.int .i64 e])∧Below W.heap.size W w') :
    Calls Tryz.prog 41 #[.pointer (some ⟨bv,0,none⟩),.agg C,.agg O] w fun x w'=>x=.returned (.tuple #[.agg C',.bool true])∧Post w.heap.size w'∧ModS S w w':=by
  obtain ⟨Z,hZ⟩:∃ Z,Z=zC:=⟨_,rfl⟩
  have HZZ:Hid (Z=zC):=hZ
  have HZS:Hid (Z.size=25):=by rw [hZ]; rfl
  clear hZ
  obtain ⟨W1,hW1⟩:∃ W1,W1=((w.alloc (.cells C 42)).alloc (.cells O 53)).alloc (.cells Z 42):=⟨_,rfl⟩
  obtain ⟨r,hr⟩:∃ r,w.heap.size=r:=⟨_,rfl⟩
  have HRR:Hid (w.heap.size=r):=hr
  have HB1:Hid (Below w.heap.size w W1):=by rw [hW1]; exact (three_rows _ _ _).1
  have HW1:Hid (W1.heap.size=r + 3):=by show W1.heap.size=r + 3; rw [hW1,← hr]; simp [World.size_alloc]
  have HT:Hid (SOut (fun k=>S k ∨ r ≤ k) tv ts):=by
    rcases hts with ⟨rfl,_⟩ | ⟨g,o,c,rfl,hc⟩
    · exact Or.inl rfl
    · rcases hot with h0 | ⟨g',o',c',he,hn⟩
      · exact Or.inl h0
      · by_cases h0:ts=[]
        · exact Or.inl h0
        · injection he with he _ _
          injection he with he
          injection he with he _ _
          subst he
          have hlt:0 < ts.length:=List.length_pos_iff.2 h0
          have hb:=World.block_lt_of_cell? w _ (hc 0 hlt)
          refine Or.inr ⟨g,o,c,rfl,fun e=>?_⟩
          rcases e with e | e
          · exact hn e
          · rw [← hr] at e
            have hb':g < w.heap.size:=hb
            omega
  have HCS:Hid (∀ mv W,SRow W mv ts → SOut (fun k=>k < r + 3) mv ts → Below W1.heap.size W1 W → CS w S r O Z mv tv ts C W):=fun mv W hm hom hb=>by
    have h3:=three_rows (w:=w) (.cells C 42) (.cells O 53) (.cells Z 42)
    rw [← hW1,hr] at h3
    obtain ⟨g1,g2,g3,g4⟩:=h3
    exact ⟨keep_row g2 hb,keep_row g3 hb,keep_row g4 hb,hm,(hts.on HB1.out).on hb,hom,HT.out,fun k e=>by rw [← hr]; exact hS k e,ModS.of (HB1.out.trans (hb.mono HB1.out.size))⟩
  have HTW:Hid (Calls Tryz.prog 26 #[tv] W1 fun e w'=>∃ v',e=.returned v'∧SRow w' v' ts∧SOut (fun k=>k < W1.heap.size) v' ts∧Below W1.heap.size W1 w'):=twin_fresh tv ts hl W1 (hts.on HB1.out) hnil
  have HSM:Hid (∀ W mv,SRow W mv ts → SRow W tv ts → Calls Tryz.prog 34 #[mv,tv] W fun e w'=>e=.returned (.bool true)∧Below W.heap.size W w'):=fun W mv a b=>(sameT_any mv tv ts ts (by omega) (by omega) W a b).mono fun x w' hx=>by
    obtain ⟨⟨b,rfl,hb⟩,k,rfl⟩:=hx
    rw [hb.2 rfl]
    exact ⟨rfl,below_dn (Below.refl _ _) k⟩
  have HONE:Hid (∀ W,SRow W tv ts → Calls Tryz.prog 28 #[tv] W fun e w'=>e=.returned (.string s0)∧Below W.heap.size W w'):=fun W a=>by rw [← hs0]; exact one_any tv ts W a
  have HO:Hid _:=hO
  have HP:Hid _:=hp
  have HD:Hid _:=hd
  rw [hr] at HD
  have HAF:Hid (Aft r Post):=by rw [← hr]; exact hA
  have HLE:Hid (w.heap.size ≤ r + 3):=by show _ ≤ _; omega
  have HSZ:Hid (∀ W,Below W1.heap.size W1 W → r + 3 ≤ W.heap.size):=fun W hb=>by have:=hb.size; rw [HW1.out] at this; exact this
  have HUP:Hid (∀ W,Below W1.heap.size W1 W → Below w.heap.size w W):=fun W hb=>HB1.out.trans (hb.mono HB1.out.size)
  have HC1:Hid (W1.cell? ⟨r + 1,1,none⟩=some tv):=by
    have h3:=three_rows (w:=w) (.cells C 42) (.cells O 53) (.cells Z 42)
    rw [← hW1,hr] at h3
    exact (cellC h3.2.2.1).trans hO.2.2.1
  have h1c:Hid _:=h1
  clear hs0 hts hnil hS hot hA hp hd hr hO h1 hl
  go_enter Tryz.func41,Tryz.ntmps41
  go_upto_region 1 with (refine alR rfl rfl Z HZZ.out ?_)
  rw [← hW1,HRR.out]
  clear hW1
  have c1:=HC1.out
  go_wp2_with fail
  refine (show Calls _ _ _ _ _ from HTW.out).mono ?_
  rintro x w2 ⟨mv,rfl,hm2,ho2,hbel1⟩
  have hcs:=HCS.out mv w2 hm2 (ho2.weak fun k hk=>by rw [HW1.out]; exact hk) hbel1
  have hbel:=HUP.out _ hbel1
  clear c1 hm2 ho2
  obtain ⟨c0,c1,c2,c3,c4,c5,c6⟩:=hcs.c HO.out
  go_wp2_with fail
  refine (show Calls _ _ _ _ _ from HP.out _ _ _ hbel HLE.out (HSZ.out _ hbel1) hcs.m (hcs.om.weak (fun k hk=>by have:=HRR.out; omega))).mono ?_; rintro x wp ⟨rfl,hpo,hmp⟩; have hcs:=hcs.mod hmp
  clear hbel hbel1
  clear c0 c1 c2 c3 c4 c5 c6
  obtain ⟨c0,c1,c2,c3,c4,c5,c6⟩:=hcs.c HO.out
  go_wp2_with (refine ldR C r _ (by rfl) rfl rfl hcs.rng h25 ?_)
  refine (show Calls _ _ _ _ _ from HD.out _ hcs.t hcs.md).mono ?_; rintro x wd ⟨rfl,hbd⟩; have hpo:=HAF.out.on hpo hbd; have hcs:=hcs.on hbd
  clear c0 c1 c2 c3 c4 c5 c6
  go_wp2_with (refine stR rfl _ _ rfl r C' C rfl rfl h25' h1c.out h25 hcs.rD ?_; intro W5 hr5 hm5)
  have hpo:=HAF.out.keep _ _ _ hpo (ModS.mod hm5 ⟨Nat.le_refl _,by omega⟩)
  have hcs:=hcs.set hr5 hm5
  have hpo:=HAF.out.on hpo (Below.refl _ _).drew
  have hcs:=hcs.on (Below.refl _ _).drew
  refine wp_region_held_drew (S:=fun W:World=>W.rangeAt r 0 C'.toList∧W.cell? ⟨r + 1,1,none⟩=some tv) (by kernel_rfl) (⟨hcs.rng,(hcs.c HO.out).2.1⟩) (fun hHeld=>?_)
  refine wpAnyH_take (i:=0) (oi:={ dst:=some 116,op:=Op.load 42 (Operand.tmp 4),type:=42,pos:= "law.go:173",after:=#[],guard:=none }) (v:=.agg C') rfl (by kernel_rfl) (by kernel_rfl) (by kernel_rfl) (fun _ _ _ h=>h) (yl53 C' r _ rfl rfl (fun _ h=>h.1) h25') (by assumption) ?_
  try simp only [Act.put,List.setIfInBounds_toArray,List.set_cons_zero,List.set_cons_succ]
  refine wpAnyH_take (i:=1) (oi:={ dst:=some 117,op:=Op.move (Operand.tmp 9),type:=3,pos:= "law.go:173",after:=#[],guard:=none }) (v:=.int .i64 n) rfl (by kernel_rfl) (by kernel_rfl) (by kernel_rfl) (fun _ _ _ h=>h) (Or.inl ⟨by rfl,?y1⟩) (by assumption) ?_
  case y1=>(intro w hSw; (try dsimp only at hSw); first | (go_simp; done) | (go_simp; with_reducible rfl) | (go_simp; rfl))
  try simp only [Act.put,List.setIfInBounds_toArray,List.set_cons_zero,List.set_cons_succ]
  refine wpAnyH_take (i:=2) (oi:={ dst:=some 118,op:=Op.move (Operand.tmp 10),type:=3,pos:= "law.go:173",after:=#[],guard:=none }) (v:=.int .i64 n) rfl (by kernel_rfl) (by kernel_rfl) (by kernel_rfl) (fun _ _ _ h=>h) (Or.inl ⟨by rfl,?y2⟩) (by assumption) ?_
  case y2=>(intro w hSw; (try dsimp only at hSw); first | (go_simp; done) | (go_simp; with_reducible rfl) | (go_simp; rfl))
  try simp only [Act.put,List.setIfInBounds_toArray,List.set_cons_zero,List.set_cons_succ]
  refine wpAnyH_take (i:=3) (oi:={ dst:=some 119,op:=Op.binOp BinOp.eql 3 (Operand.tmp 117) (Operand.tmp 118) 3,type:=4,pos:= "law.go:173",after:=#[{ on:=1,ground:=Ground.data },{ on:=2,ground:=Ground.data }],guard:=none }) (v:=.bool true) rfl (by kernel_rfl) (by kernel_rfl) (by kernel_rfl) (fun _ _ _ h=>h) (Or.inl ⟨by rfl,?y3⟩) (by assumption) ?_
  case y3=>(intro w hSw; (try dsimp only at hSw); first | (go_simp; done) | (go_simp; with_reducible rfl) | (go_simp; rfl))
  try simp only [Act.put,List.setIfInBounds_toArray,List.set_cons_zero,List.set_cons_succ]
  refine wpAnyH_take (i:=4) (oi:={ dst:=some 120,op:=Op.move (Operand.tmp 119),type:=4,pos:= "law.go:173",after:=#[{ on:=3,ground:=Ground.data }],guard:=none }) (v:=.bool true) rfl (by kernel_rfl) (by kernel_rfl) (by kernel_rfl) (fun _ _ _ h=>h) (Or.inl ⟨by rfl,?y4⟩) (by assumption) ?_
  case y4=>(intro w hSw; (try dsimp only at hSw); first | (go_simp; done) | (go_simp; with_reducible rfl) | (go_simp; rfl))
  try simp only [Act.put,List.setIfInBounds_toArray,List.set_cons_zero,List.set_cons_succ]
  refine wpAnyH_take (i:=5) (oi:={ dst:=some 121,op:=Op.move (Operand.tmp 12),type:=28,pos:= "law.go:173",after:=#[{ on:=4,ground:=Ground.guard }],guard:=some (4,true) }) (v:=.int .i64 e) rfl (by kernel_rfl) (by kernel_rfl) (by kernel_rfl) (fun _ _ _ h=>h) (Or.inl ⟨by rfl,?y5⟩) (by assumption) ?_
  case y5=>(intro w hSw; (try dsimp only at hSw); first | (go_simp; done) | (go_simp; with_reducible rfl) | (go_simp; rfl))
  try simp only [Act.put,List.setIfInBounds_toArray,List.set_cons_zero,List.set_cons_succ]
  refine wpAnyH_take (i:=6) (oi:={ dst:=some 122,op:=Op.move (Operand.tmp 11),type:=3,pos:= "law.go:173",after:=#[{ on:=4,ground:=Ground.guard }],guard:=some (4,true) }) (v:=.int .i64 e) rfl (by kernel_rfl) (by kernel_rfl) (by kernel_rfl) (fun _ _ _ h=>h) (Or.inl ⟨by rfl,?y6⟩) (by assumption) ?_
  case y6=>(intro w hSw; (try dsimp only at hSw); first | (go_simp; done) | (go_simp; with_reducible rfl) | (go_simp; rfl))
  try simp only [Act.put,List.setIfInBounds_toArray,List.set_cons_zero,List.set_cons_succ]
  refine wpAnyH_take (i:=7) (oi:={ dst:=some 123,op:=Op.binOp BinOp.eql 3 (Operand.tmp 121) (Operand.tmp 122) 3,type:=4,pos:= "law.go:173",after:=#[{ on:=5,ground:=Ground.data },{ on:=6,ground:=Ground.data },{ on:=4,ground:=Ground.guard }],guard:=some (4,true) }) (v:=.bool true) rfl (by kernel_rfl) (by kernel_rfl) (by kernel_rfl) (fun _ _ _ h=>h) (Or.inl ⟨by rfl,?y7⟩) (by assumption) ?_
  case y7=>(intro w hSw; (try dsimp only at hSw); first | (go_simp; done) | (go_simp; with_reducible rfl) | (go_simp; rfl))
  try simp only [Act.put,List.setIfInBounds_toArray,List.set_cons_zero,List.set_cons_succ]
  refine wpAnyH_take (i:=8) (oi:={ dst:=some 124,op:=Op.pick (Operand.tmp 120) (Operand.tmp 123) (Operand.const (Value.bool false)),type:=4,pos:= "law.go:173",after:=#[{ on:=4,ground:=Ground.data },{ on:=7,ground:=Ground.data }],guard:=none }) (v:=.bool true) rfl (by kernel_rfl) (by kernel_rfl) (by kernel_rfl) (fun _ _ _ h=>h) (Or.inl ⟨by rfl,?y8⟩) (by assumption) ?_
  case y8=>(intro w hSw; (try dsimp only at hSw); first | (go_simp; done) | (go_simp; with_reducible rfl) | (go_simp; rfl))
  try simp only [Act.put,List.setIfInBounds_toArray,List.set_cons_zero,List.set_cons_succ]
  refine wpAnyH_take (i:=9) (oi:={ dst:=some 125,op:=Op.move (Operand.tmp 124),type:=4,pos:= "law.go:173",after:=#[{ on:=8,ground:=Ground.data },{ on:=4,ground:=Ground.chain }],guard:=none }) (v:=.bool true) rfl (by kernel_rfl) (by kernel_rfl) (by kernel_rfl) (fun _ _ _ h=>h) (Or.inl ⟨by rfl,?y9⟩) (by assumption) ?_
  case y9=>(intro w hSw; (try dsimp only at hSw); first | (go_simp; done) | (go_simp; with_reducible rfl) | (go_simp; rfl))
  try simp only [Act.put,List.setIfInBounds_toArray,List.set_cons_zero,List.set_cons_succ]
  refine wpAnyH_take (i:=10) (oi:={ dst:=some 126,op:=Op.move (Operand.tmp 8),type:=34,pos:= "law.go:173",after:=#[{ on:=9,ground:=Ground.guard }],guard:=some (9,true) }) (v:=mv) rfl (by kernel_rfl) (by kernel_rfl) (by kernel_rfl) (fun _ _ _ h=>h) (Or.inl ⟨by rfl,?y10⟩) (by assumption) ?_
  case y10=>(intro w hSw; (try dsimp only at hSw); first | (go_simp; done) | (go_simp; with_reducible rfl) | (go_simp; rfl))
  try simp only [Act.put,List.setIfInBounds_toArray,List.set_cons_zero,List.set_cons_succ]
  refine wpAnyH_take (i:=11) (oi:={ dst:=some 127,op:=Op.fieldAddr 53 (Operand.tmp 5) 1,type:=0,pos:= "law.go:173",after:=#[{ on:=9,ground:=Ground.guard }],guard:=some (9,true) }) (v:=.pointer (some ⟨r + 1,1,none⟩)) rfl (by kernel_rfl) (by kernel_rfl) (by kernel_rfl) (fun _ _ _ h=>h) (Or.inl ⟨by rfl,?y11⟩) (by assumption) ?_
  case y11=>(intro w hSw; (try dsimp only at hSw); first | (go_simp; done) | (go_simp; with_reducible rfl) | (go_simp; rfl))
  try simp only [Act.put,List.setIfInBounds_toArray,List.set_cons_zero,List.set_cons_succ]
  refine wpAnyH_take (i:=12) (oi:={ dst:=some 128,op:=Op.load 34 (Operand.tmp 127),type:=34,pos:= "law.go:173",after:=#[{ on:=11,ground:=Ground.data },{ on:=9,ground:=Ground.guard }],guard:=some (9,true) }) (v:=tv) rfl (by kernel_rfl) (by kernel_rfl) (by kernel_rfl) (fun _ _ _ h=>h) (Or.inl ⟨by rfl,?y12⟩) (by assumption) ?_
  case y12=>(intro w hSw; (try dsimp only at hSw); first | (go_simp; done) | (go_simp; with_reducible rfl) | (go_simp; rfl))
  try simp only [Act.put,List.setIfInBounds_toArray,List.set_cons_zero,List.set_cons_succ]
  refine wpAnyH_ready (rs:=[13]) (by kernel_rfl) (by simp) ?_
  refine AllReadyH.cons (o:={ dst:=some 129,op:=Op.call { callee:=Callee.value (Operand.func 34),args:=#[Operand.tmp 126,Operand.tmp 128],argTypes:=#[34,34] },type:=4,pos:= "law.go:173",after:=#[{ on:=10,ground:=Ground.data },{ on:=12,ground:=Ground.data },{ on:=9,ground:=Ground.chain },{ on:=9,ground:=Ground.guard }],guard:=some (9,true) }) rfl (fun K hK=>?_) AllReadyH.nil
  first | (go_at_call 34; refine (show Calls _ _ _ _ _ from HSM.out _ _ hcs.m hcs.t).mono ?_; rintro x ws ⟨rfl,hbs⟩; have hpo:=HAF.out.on hpo hbs; have hcs:=hcs.on hbs) | (go_simp; go_at_call 34; refine (show Calls _ _ _ _ _ from HSM.out _ _ hcs.m hcs.t).mono ?_; rintro x ws ⟨rfl,hbs⟩; have hpo:=HAF.out.on hpo hbs; have hcs:=hcs.on hbs)
  refine hK.out _ _ (⟨hcs.rng,(hcs.c HO.out).2.1⟩) (fun hHeld=>?_)
  clear hK K
  try simp only [Act.put,List.setIfInBounds_toArray,List.set_cons_zero,List.set_cons_succ]
  refine wpAnyH_take (i:=14) (oi:={ dst:=some 130,op:=Op.pick (Operand.tmp 125) (Operand.tmp 129) (Operand.const (Value.bool false)),type:=4,pos:= "law.go:173",after:=#[{ on:=9,ground:=Ground.data },{ on:=13,ground:=Ground.data },{ on:=15,ground:=Ground.gcOnly Departure.lateStores }],guard:=none }) (v:=.bool true) rfl (by kernel_rfl) (by kernel_rfl) (by kernel_rfl) (fun _ _ _ h=>h) (Or.inl ⟨by rfl,?y14⟩) (by assumption) ?_
  case y14=>(intro w hSw; (try dsimp only at hSw); first | (go_simp; done) | (go_simp; with_reducible rfl) | (go_simp; rfl))
  try simp only [Act.put,List.setIfInBounds_toArray,List.set_cons_zero,List.set_cons_succ]
  refine wpAnyH_ready (rs:=[15]) (by kernel_rfl) (by simp) ?_
  refine AllReadyH.cons (o:={ dst:=none,op:=Op.store 42 (Operand.tmp 6) (Operand.tmp 116),type:=0,pos:= "law.go:173",after:=#[{ on:=0,ground:=Ground.data },{ on:=13,ground:=Ground.chain },{ on:=0,ground:=Ground.phase },{ on:=1,ground:=Ground.textOnly Departure.lateStores },{ on:=2,ground:=Ground.textOnly Departure.lateStores },{ on:=3,ground:=Ground.textOnly Departure.lateStores },{ on:=4,ground:=Ground.textOnly Departure.lateStores },{ on:=5,ground:=Ground.textOnly Departure.lateStores },{ on:=6,ground:=Ground.textOnly Departure.lateStores },{ on:=7,ground:=Ground.textOnly Departure.lateStores },{ on:=8,ground:=Ground.textOnly Departure.lateStores },{ on:=9,ground:=Ground.textOnly Departure.lateStores },{ on:=10,ground:=Ground.textOnly Departure.lateStores },{ on:=11,ground:=Ground.textOnly Departure.lateStores },{ on:=12,ground:=Ground.textOnly Departure.lateStores },{ on:=13,ground:=Ground.textOnly Departure.lateStoresUnsure },{ on:=14,ground:=Ground.textOnly Departure.lateStores }],guard:=none }) rfl (fun K hK=>?_) AllReadyH.nil
  refine rdyS (r + 2) C' Z _ _ (by rfl) rfl rfl rfl h25' h1c.out HZS.out hcs.rZ ?_; intro W6 hr6 hm6
  refine hK.out _ _ (⟨fun j v hv=>by rw [cell_same (hm6.oth r (row_lt hcs.rD) (by omega))]; exact hcs.rng j v hv,by rw [cell_same (hm6.oth (r + 1) (row_lt hcs.rO) (by omega))]; exact (hcs.c HO.out).2.1⟩) (fun hHeld=>?_)
  clear hK K
  try simp only [Act.put,List.setIfInBounds_toArray,List.set_cons_zero,List.set_cons_succ]
  refine wpAnyH_take (i:=16) (oi:={ dst:=some 7,op:=Op.assign (Operand.tmp 130),type:=4,pos:= "law.go:173",after:=#[{ on:=14,ground:=Ground.data },{ on:=15,ground:=Ground.chain },{ on:=0,ground:=Ground.phase },{ on:=1,ground:=Ground.phase },{ on:=2,ground:=Ground.phase },{ on:=3,ground:=Ground.phase },{ on:=4,ground:=Ground.phase },{ on:=5,ground:=Ground.phase },{ on:=6,ground:=Ground.phase },{ on:=7,ground:=Ground.phase },{ on:=8,ground:=Ground.phase },{ on:=9,ground:=Ground.phase },{ on:=10,ground:=Ground.phase },{ on:=11,ground:=Ground.phase },{ on:=12,ground:=Ground.phase },{ on:=13,ground:=Ground.phase },{ on:=14,ground:=Ground.phase },{ on:=15,ground:=Ground.phase }],guard:=none }) (v:=.bool true) rfl (by kernel_rfl) (by kernel_rfl) (by kernel_rfl) (fun _ _ _ h=>h) (Or.inl ⟨by rfl,?y16⟩) (by assumption) ?_
  case y16=>(intro w hSw; (try dsimp only at hSw); first | (go_simp; done) | (go_simp; with_reducible rfl) | (go_simp; rfl))
  try simp only [Act.put,List.setIfInBounds_toArray,List.set_cons_zero,List.set_cons_succ]
  refine wpAnyH_done (by kernel_rfl) ?_ _
  have hlv:=run_loadVar_mid (P:=Tryz.prog) W6 (r + 2) 0 42 C'.toList _ (fun j v hv=>by rw [cell_of_row _ _ _ _ _ _ hr6]; simpa using hv) Tryz.underlying42 rfl (by rw [Array.length_toList,h25']; exact i53)
  rw [Array.toArray_toList] at hlv
  have hfin:Post w.heap.size W6∧ModS S w W6:=⟨HAF.out.mono _ _ _ HLE.out (HAF.out.keep _ _ _ hpo (ModS.mod hm6 ⟨by omega,by omega⟩)),(hcs.md.trans (ModS.mod hm6 (Or.inr (by omega)))).weak fun k hk e=>by rcases e with e | e; exact e; have:=HRR.out; omega⟩
  go_wp2
  refine bodyPost_ret (v:=.tuple #[.agg C',.bool true]) (by simp [results,Tryz.results41,asAddr,hlv,Result.andThen]) rfl ⟨rfl,hfin⟩
end Go.Proofs.YtiefeeoellagnaaGreatDoor.V
