import Derived.Test.YtiefeeoellagnaaGreatDoorHD
import Derived.Deep.WholeRow
import Derived.Deep.MidRow
namespace Go.Proofs.YtiefeeoellagnaaGreatDoor.V
open Go.RowKit S5.IM
open S6 (Laid Lay)
set_option linter.unusedVariables false
set_option linter.unusedSimpArgs false
set_option maxHeartbeats 4000000 in
set_option maxRecDepth 20000 in
theorem rCheck_any (t:TH) (w:World):Calls Tryz.prog 17 #[thV t] w fun e w'=>e=.returned (.int .i64 (if okT t=true then 0 else 1))∧Below w.heap.size w w':=by
  obtain ⟨a,b,c,d,e,f,g,h,i⟩:=t
  obtain ⟨r,hr⟩:∃ r,(if okT ⟨a,b,c,d,e,f,g,h,i⟩=true then (0:Int) else 1)=r:=⟨_,rfl⟩
  rw [hr]
  have HR:Hid _:=hr
  clear hr
  unfold thV
  go_enter Tryz.func17,Tryz.ntmps17
  go_wp2
  all_goals (try go_rounds 9)
  all_goals (go_returns)
  all_goals (refine ⟨?_,by go_grown⟩)
  all_goals (rw [← HR.out]; clear HR; congr 2; split <;> simp_all [okT,inB] <;> omega)
theorem setCells_pre (g T:Nat):∀ (vs pre xs:List Value) (w:World),xs.length=vs.length → w.heap[g]?=some (.cells (pre ++ xs).toArray T) → (w.setCells g pre.length vs).heap[g]?=some (.cells (pre ++ vs).toArray T)∧Only w (w.setCells g pre.length vs) g
  | [],pre,xs,w,hl,h=>by
    have:xs=[]:=List.length_eq_zero_iff.1 hl
    subst this
    exact ⟨h,Only.refl _ _⟩
  | v :: vs,pre,[],w,hl,h=>by simp at hl
  | v :: vs,pre,x :: xs,w,hl,h=>by
    have h1:(w.setCell ⟨g,pre.length,none⟩ v).heap[g]?=some (.cells ((pre ++ [v]) ++ xs).toArray T):=by
      rw [heap_setCell_same _ _ _ _ _ _ h]
      congr 2
      apply Array.ext'
      simp
    have h2:=setCells_pre g T vs (pre ++ [v]) xs (w.setCell ⟨g,pre.length,none⟩ v) (by simpa using hl) h1
    rw [List.length_append,List.length_singleton] at h2
    refine ⟨?_,((Only.refl _ _).set _ _).trans h2.2⟩
    have:=h2.1
    simpa [World.setCells] using this
theorem row9 {w:World} {g T:Nat} {v0 v1 v2 v3 v4 v5 v6 v7 v8:Value} (h:w.heap[g]?=some (.cells #[v0,v1,v2,v3,v4,v5,v6,v7,v8] T)):w.cell? ⟨g,0,none⟩=some v0∧w.cell? ⟨g,1,none⟩=some v1∧w.cell? ⟨g,2,none⟩=some v2∧w.cell? ⟨g,3,none⟩=some v3∧w.cell? ⟨g,4,none⟩=some v4∧w.cell? ⟨g,5,none⟩=some v5∧w.cell? ⟨g,6,none⟩=some v6∧w.cell? ⟨g,7,none⟩=some v7∧w.cell? ⟨g,8,none⟩=some v8∧∀ j,w.frozen? ⟨g,j,none⟩=false:=by
  refine ⟨?_,?_,?_,?_,?_,?_,?_,?_,?_,fun j=>frozen_of_row _ _ _ _ _ h⟩ <;> rw [cell_of_row _ _ _ _ _ _ h] <;> rfl
def rV (k:Int) (t:TH) (enc:ByteArray) (l0 l1:Int) (ints:ByteArray):Value:=.agg #[.int .i64 k,.int .i64 t.a,.int .i64 t.b,.int .i64 t.c,.int .i64 t.d,.int .i64 t.e,.int .i64 t.f,.int .i64 t.g,.int .i64 t.h,.int .i64 t.i,.string enc,.string ⟨#[]⟩,.int .i64 l0,.int .i64 l1,.slice none 0 0,.string ints,.slice none 0 0,.slice none 0 0,.slice none 0 0,.int .i64 0,.int .i64 0,.slice none 0 0,.int .i64 0,.slice none 0 0,.int .i64 0]
def lpE:ByteArray:=⟨#[108,105,115,116,112,97,99,107]⟩
end Go.Proofs.YtiefeeoellagnaaGreatDoor.V
namespace Go.Proofs.YtiefeeoellagnaaGreatDoor.V
open Go.RowKit S5.IM
open S6 (Laid Lay)
set_option linter.unusedVariables false
set_option linter.unusedSimpArgs false
theorem wpList_val {P:Program} {ops:Array Oper} {rest:List Oper} {o:Oper} {a:Act} {w w':World} {v:Value} {Q:Exit → Act → World → Prop} (hg:o.guard=none) (hr:(execOp a.eval o).run P w=.ok (.value v) w') (h:wpList P ops Q rest (a.put o.dst v) w'):wpList P ops Q (o :: rest) a w:=by
  refine wpList_plain hg fun K hK=>?_
  unfold Oper.wp
  rw [hr]
  exact hK _ _ h
set_option maxHeartbeats 4000000 in
set_option maxRecDepth 20000 in
theorem rNew_plain (k:Int) (hk:k=1 ∨ k=4 ∨ k=5) (t:TH) (ht:okT t=true) (w:World):Calls Tryz.prog 6 #[.int .i64 k,thV t] w fun e w'=>e=.returned (.tuple #[rV k t lpE 0 0 ⟨#[]⟩,.int .i64 0])∧Below w.heap.size w w':=by
  have HCK:Hid (∀ W,Calls Tryz.prog 17 #[thV t] W fun e w'=>e=.returned (.int .i64 0)∧Below W.heap.size W w'):=fun W=>by have:=rCheck_any t W; rw [if_pos ht] at this; exact this
  obtain ⟨a,b,c,d,e,f,g,h,i⟩:=t
  unfold thV rV lpE at *
  simp only [] at *
  clear ht
  have hk1:¬ k < 1:=by omega
  have hk5:¬ 5 < k:=by omega
  have hn2:(k == 2)=false:=by rw [beq_eq_false_iff_ne]; omega
  have hn3:(k == 3)=false:=by rw [beq_eq_false_iff_ne]; omega
  obtain ⟨C,hC⟩:∃ C:Array Value,C=#[.int .i64 k,.int .i64 a,.int .i64 b,.int .i64 c,.int .i64 d,.int .i64 e,.int .i64 f,.int .i64 g,.int .i64 h,.int .i64 i,.string ⟨#[108,105,115,116,112,97,99,107]⟩,.string ⟨#[]⟩,.int .i64 0,.int .i64 0,.slice none 0 0,.string ⟨#[]⟩,.slice none 0 0,.slice none 0 0,.slice none 0 0,.int .i64 0,.int .i64 0,.slice none 0 0,.int .i64 0,.slice none 0 0,.int .i64 0]:=⟨_,rfl⟩
  obtain ⟨ZZ,hZ⟩:∃ C:Array Value,C=#[.int .i64 0,.int .i64 0,.int .i64 0,.int .i64 0,.int .i64 0,.int .i64 0,.int .i64 0,.int .i64 0,.int .i64 0,.int .i64 0,.string ⟨#[]⟩,.string ⟨#[]⟩,.int .i64 0,.int .i64 0,.slice none 0 0,.string ⟨#[]⟩,.slice none 0 0,.slice none 0 0,.slice none 0 0,.int .i64 0,.int .i64 0,.slice none 0 0,.int .i64 0,.slice none 0 0,.int .i64 0]:=⟨_,rfl⟩
  have HCS:Hid (C.size=25):=by show _=_; rw [hC]; rfl
  have HZS:Hid (ZZ.size=25):=by show _=_; rw [hZ]; rfl
  have HC1:Hid (C.all (·.oneCell')=true):=by show _=_; rw [hC]; kernel_rfl
  rw [← hC]
  obtain ⟨W1,hW1⟩:∃ W1,W1=(w.alloc (.cells #[.int .i64 a,.int .i64 b,.int .i64 c,.int .i64 d,.int .i64 e,.int .i64 f,.int .i64 g,.int .i64 h,.int .i64 i] 23)).alloc (.cells #[.int .i64 0,.int .i64 0,.int .i64 0,.int .i64 0,.int .i64 0,.int .i64 0,.int .i64 0,.int .i64 0,.int .i64 0,.int .i64 0,.string ⟨#[]⟩,.string ⟨#[]⟩,.int .i64 0,.int .i64 0,.slice none 0 0,.string ⟨#[]⟩,.slice none 0 0,.slice none 0 0,.slice none 0 0,.int .i64 0,.int .i64 0,.slice none 0 0,.int .i64 0,.slice none 0 0,.int .i64 0] 42):=⟨_,rfl⟩
  obtain ⟨r,hr⟩:∃ r,w.heap.size=r:=⟨_,rfl⟩
  have HRR:Hid (w.heap.size=r):=hr
  have HA:Hid (Below w.heap.size w W1∧W1.heap[r]?=some (.cells #[.int .i64 a,.int .i64 b,.int .i64 c,.int .i64 d,.int .i64 e,.int .i64 f,.int .i64 g,.int .i64 h,.int .i64 i] 23)∧W1.heap[r + 1]?=some (.cells #[.int .i64 0,.int .i64 0,.int .i64 0,.int .i64 0,.int .i64 0,.int .i64 0,.int .i64 0,.int .i64 0,.int .i64 0,.int .i64 0,.string ⟨#[]⟩,.string ⟨#[]⟩,.int .i64 0,.int .i64 0,.slice none 0 0,.string ⟨#[]⟩,.slice none 0 0,.slice none 0 0,.slice none 0 0,.int .i64 0,.int .i64 0,.slice none 0 0,.int .i64 0,.slice none 0 0,.int .i64 0] 42)):=by
    rw [hW1,← hr]
    exact two_rows (Below.refl _ _)
  clear hr
  go_enter Tryz.func6,Tryz.ntmps6
  go_wp2_with fail
  rw [← hW1,HRR.out]
  refine (show Calls _ _ _ _ _ from HCK.out _).mono ?_
  rintro e w2 ⟨rfl,hb2⟩
  have HB2:Hid (Below w.heap.size w w2):=HA.out.1.trans (hb2.mono HA.out.1.size)
  have HT2:Hid _:=keep_row HA.out.2.1 hb2
  have HR2:Hid (w2.heap[r + 1]?=some (.cells ZZ 42)):=by show _=_; rw [hZ]; exact keep_row HA.out.2.2 hb2
  clear hb2 hW1
  obtain ⟨y0,y1,y2,y3,y4,y5,y6,y7,y8,yf⟩:=row9 HT2.out
  have hi53:Hid ((Tryz.prog.info? 42).map (·.size)=some 25):=by show _=_; kernel_rfl
  go_upto_region 3 with fail
  obtain ⟨y0,y1,y2,y3,y4,y5,y6,y7,y8,yf⟩:=row9 HT2.out
  refine wp_region_list ?_
  refine wpList_val rfl (v:=.int .i64 k) rfl ?_
  refine wpList_load_mid rfl 23 _ rfl r 0 rfl [.int .i64 a,.int .i64 b,.int .i64 c,.int .i64 d,.int .i64 e,.int .i64 f,.int .i64 g,.int .i64 h,.int .i64 i] _ ?l1 Tryz.underlying23 rfl (by kernel_rfl) ?_
  case l1 =>
    intro j v hv
    rw [cell_of_row _ _ _ _ _ _ HT2.out]
    simpa using hv
  have HZR:Hid ((w2.alloc (.cells ZZ 42)).heap[w2.heap.size]?=some (.cells ZZ 42)):=one_alloc _ _
  refine wpList_val rfl (v:=.agg C) (w':=w2) (by rw [hC]; kernel_rfl) ?_
  refine wpList_val rfl (v:=.pointer (some ⟨w2.heap.size,0,none⟩)) (w':=w2.alloc (.cells ZZ 42)) (by rw [hZ]; kernel_rfl) ?_
  refine wpList_store_mid rfl 42 _ _ rfl w2.heap.size 0 C rfl rfl ?s1 (by rw [HCS.out]; exact hi53.out) HC1.out ?_
  case s1 =>
    intro j hj
    rw [HCS.out] at hj
    have:=HZS.out
    refine ⟨?_,frozen_of_row _ _ _ _ _ HZR.out⟩
    rw [cell_of_row _ _ _ _ _ _ HZR.out]
    simp; omega
  have h3:=setCells_pre w2.heap.size 42 C.toList [] ZZ.toList (w2.alloc (.cells ZZ 42)) (by simp [HCS.out,HZS.out]) (by simpa using HZR.out)
  rw [List.length_nil] at h3
  simp only [List.nil_append,Array.toArray_toList] at h3
  revert h3
  generalize (w2.alloc (.cells ZZ 42)).setCells w2.heap.size 0 C.toList=W3
  intro h3
  have HC3:Hid (W3.heap[w2.heap.size]?=some (.cells C 42)):=h3.1
  have HO3:Hid (Mod w2.heap.size (w2.alloc (.cells ZZ 42)) W3):=Mod.only h3.2
  have HLT:Hid (r + 1 < w2.heap.size):=row_lt HR2.out
  have HR3:Hid (W3.heap[r + 1]?=some (.cells ZZ 42)):=HO3.out.row (keep_row HR2.out ((Below.refl _ _).alloc (Nat.le_refl _) _)) (by have:=HLT.out; omega)
  have HB3:Hid (Below w.heap.size w W3):=(HB2.out.alloc HB2.out.size _).trans (HO3.out.below (by have h1:=HLT.out; rw [HRR.out]; omega) (by simp; have:=HB2.out.size; omega))
  clear h3 y0 y1 y2 y3 y4 y5 y6 y7 y8 yf hZ
  have HCC:Hid _:=hC
  clear hC
  go_upto_region 11 with fail
  refine wp_region_list ?_
  refine wpList_load_mid rfl 42 _ rfl w2.heap.size 0 rfl C.toList _ ?m1 Tryz.underlying42 rfl (by rw [Array.length_toList,HCS.out]; exact hi53.out) ?_
  case m1 =>
    intro j v hv
    rw [cell_of_row _ _ _ _ _ _ HC3.out]
    simpa using hv
  rw [Array.toArray_toList]
  refine wpList_store_mid rfl 42 _ _ rfl (r + 1) 0 C rfl rfl ?s4 (by rw [HCS.out]; exact hi53.out) HC1.out ?_
  case s4 =>
    intro j hj
    rw [HCS.out] at hj
    have:=HZS.out
    refine ⟨?_,frozen_of_row _ _ _ _ _ HR3.out⟩
    rw [cell_of_row _ _ _ _ _ _ HR3.out]
    simp; omega
  have h4:=setCells_pre (r + 1) 42 C.toList [] ZZ.toList W3 (by simp [HCS.out,HZS.out]) (by simpa using HR3.out)
  rw [List.length_nil] at h4
  simp only [List.nil_append,Array.toArray_toList] at h4
  revert h4
  generalize W3.setCells (r + 1) 0 C.toList=W4
  intro h4
  have HC4:Hid (W4.heap[r + 1]?=some (.cells C 42)):=h4.1
  have HB4:Hid (Below w.heap.size w W4):=HB3.out.trans (h4.2.below (by rw [HRR.out]; omega))
  clear h4
  go_wp2
  have hlv:=run_loadVar_mid (P:=Tryz.prog) W4 (r + 1) 0 42 C.toList _ (fun j v hv=>by rw [cell_of_row _ _ _ _ _ _ HC4.out]; simpa using hv) Tryz.underlying42 rfl (by rw [Array.length_toList,HCS.out]; exact hi53.out)
  rw [Array.toArray_toList] at hlv
  refine bodyPost_ret (v:=.tuple #[.agg C,.int .i64 0]) (by simp [results,Tryz.results6,asAddr,hlv,Result.andThen]) rfl ⟨rfl,HB4.out⟩
end Go.Proofs.YtiefeeoellagnaaGreatDoor.V
namespace Go.Proofs.YtiefeeoellagnaaGreatDoor.V
open Go.RowKit S5.IM
open S6 (Laid Lay)
set_option linter.unusedVariables false
set_option linter.unusedSimpArgs false
theorem cellC {C:Array Value} {T r j:Nat} {W:World} (h:W.heap[r]?=some (.cells C T)):W.cell? ⟨r,j,none⟩=C[j]?:=cell_of_row _ _ _ _ _ _ h
set_option maxRecDepth 20000 in
theorem rAt_ref (C:Array Value) (k:Int) (hk:k ≠ 2) (h0:C[0]?=some (.int .i64 k)) (i:Int) (w:World):Calls Tryz.prog 52 #[.agg C,.int .i64 i] w fun e w'=>e=.returned (.tuple #[.string ⟨#[]⟩,.int .i64 4])∧Below w.heap.size w w':=by
  obtain ⟨W1,hW1⟩:∃ W1,W1=w.alloc (.cells C 42):=⟨_,rfl⟩
  obtain ⟨r,hr⟩:∃ r,w.heap.size=r:=⟨_,rfl⟩
  have HB:Hid (Below w.heap.size w W1):=by rw [hW1]; exact (Below.refl _ _).alloc (Nat.le_refl _) _
  have c0:W1.cell? ⟨r,0,none⟩=some (.int .i64 k):=by
    rw [cellC (C:=C) (T:=42) (by rw [hW1,← hr]; exact one_alloc _ _)]; exact h0
  have hkb:(k != 2)=true:=bne_iff_ne.mpr hk
  have HRR:Hid (w.heap.size=r):=hr
  clear h0 hr
  go_enter Tryz.func52,Tryz.ntmps52
  go_upto_region 1 with fail
  rw [← hW1,HRR.out]
  clear hW1
  go_wp2
  go_returns
  exact ⟨rfl,HB.out⟩
set_option maxRecDepth 20000 in
theorem rRange_ref (C:Array Value) (k:Int) (hk:k ≠ 2) (h0:C[0]?=some (.int .i64 k)) (i n:Int) (w:World):Calls Tryz.prog 54 #[.agg C,.int .i64 i,.int .i64 n] w fun e w'=>e=.returned (.tuple #[.slice none 0 0,.int .i64 4])∧Below w.heap.size w w':=by
  obtain ⟨W1,hW1⟩:∃ W1,W1=w.alloc (.cells C 42):=⟨_,rfl⟩
  obtain ⟨r,hr⟩:∃ r,w.heap.size=r:=⟨_,rfl⟩
  have HB:Hid (Below w.heap.size w W1):=by rw [hW1]; exact (Below.refl _ _).alloc (Nat.le_refl _) _
  have c0:W1.cell? ⟨r,0,none⟩=some (.int .i64 k):=by
    rw [cellC (C:=C) (T:=42) (by rw [hW1,← hr]; exact one_alloc _ _)]; exact h0
  have hkb:(k != 2)=true:=bne_iff_ne.mpr hk
  have HRR:Hid (w.heap.size=r):=hr
  clear h0 hr
  go_enter Tryz.func54,Tryz.ntmps54
  go_upto_region 1 with fail
  rw [← hW1,HRR.out]
  clear hW1
  go_wp2
  go_returns
  exact ⟨rfl,HB.out⟩
set_option maxRecDepth 20000 in
theorem rHas_ref (C:Array Value) (k:Int) (hk:k ≠ 3) (h0:C[0]?=some (.int .i64 k)) (s:ByteArray) (w:World):Calls Tryz.prog 55 #[.agg C,.string s] w fun e w'=>e=.returned (.tuple #[.bool false,.int .i64 4])∧Below w.heap.size w w':=by
  obtain ⟨W1,hW1⟩:∃ W1,W1=w.alloc (.cells C 42):=⟨_,rfl⟩
  obtain ⟨r,hr⟩:∃ r,w.heap.size=r:=⟨_,rfl⟩
  have HB:Hid (Below w.heap.size w W1):=by rw [hW1]; exact (Below.refl _ _).alloc (Nat.le_refl _) _
  have c0:W1.cell? ⟨r,0,none⟩=some (.int .i64 k):=by
    rw [cellC (C:=C) (T:=42) (by rw [hW1,← hr]; exact one_alloc _ _)]; exact h0
  have hkb:(k != 3)=true:=bne_iff_ne.mpr hk
  have HRR:Hid (w.heap.size=r):=hr
  clear h0 hr
  go_enter Tryz.func55,Tryz.ntmps55
  go_upto_region 1 with fail
  rw [← hW1,HRR.out]
  clear hW1
  go_wp2
  go_returns
  exact ⟨rfl,HB.out⟩
set_option maxRecDepth 20000 in
theorem rMembers_ref (C:Array Value) (k:Int) (hk:k ≠ 3) (h0:C[0]?=some (.int .i64 k))  (w:World):Calls Tryz.prog 57 #[.agg C] w fun e w'=>e=.returned (.tuple #[.slice none 0 0,.int .i64 4])∧Below w.heap.size w w':=by
  obtain ⟨W1,hW1⟩:∃ W1,W1=w.alloc (.cells C 42):=⟨_,rfl⟩
  obtain ⟨r,hr⟩:∃ r,w.heap.size=r:=⟨_,rfl⟩
  have HB:Hid (Below w.heap.size w W1):=by rw [hW1]; exact (Below.refl _ _).alloc (Nat.le_refl _) _
  have c0:W1.cell? ⟨r,0,none⟩=some (.int .i64 k):=by
    rw [cellC (C:=C) (T:=42) (by rw [hW1,← hr]; exact one_alloc _ _)]; exact h0
  have hkb:(k != 3)=true:=bne_iff_ne.mpr hk
  have HRR:Hid (w.heap.size=r):=hr
  clear h0 hr
  go_enter Tryz.func57,Tryz.ntmps57
  go_upto_region 1 with fail
  rw [← hW1,HRR.out]
  clear hW1
  go_wp2
  go_returns
  exact ⟨rfl,HB.out⟩
set_option maxRecDepth 20000 in
theorem rField_ref (C:Array Value) (k:Int) (hk:k ≠ 5) (h0:C[0]?=some (.int .i64 k)) (s:ByteArray) (w:World):Calls Tryz.prog 58 #[.agg C,.string s] w fun e w'=>e=.returned (.tuple #[.string ⟨#[]⟩,.bool false,.int .i64 4])∧Below w.heap.size w w':=by
  obtain ⟨W1,hW1⟩:∃ W1,W1=w.alloc (.cells C 42):=⟨_,rfl⟩
  obtain ⟨r,hr⟩:∃ r,w.heap.size=r:=⟨_,rfl⟩
  have HB:Hid (Below w.heap.size w W1):=by rw [hW1]; exact (Below.refl _ _).alloc (Nat.le_refl _) _
  have c0:W1.cell? ⟨r,0,none⟩=some (.int .i64 k):=by
    rw [cellC (C:=C) (T:=42) (by rw [hW1,← hr]; exact one_alloc _ _)]; exact h0
  have hkb:(k != 5)=true:=bne_iff_ne.mpr hk
  have HRR:Hid (w.heap.size=r):=hr
  clear h0 hr
  go_enter Tryz.func58,Tryz.ntmps58
  go_upto_region 1 with fail
  rw [← hW1,HRR.out]
  clear hW1
  go_wp2
  go_returns
  exact ⟨rfl,HB.out⟩
set_option maxRecDepth 20000 in
theorem rFields_ref (C:Array Value) (k:Int) (hk:k ≠ 5) (h0:C[0]?=some (.int .i64 k))  (w:World):Calls Tryz.prog 60 #[.agg C] w fun e w'=>e=.returned (.tuple #[.slice none 0 0,.int .i64 4])∧Below w.heap.size w w':=by
  obtain ⟨W1,hW1⟩:∃ W1,W1=w.alloc (.cells C 42):=⟨_,rfl⟩
  obtain ⟨r,hr⟩:∃ r,w.heap.size=r:=⟨_,rfl⟩
  have HB:Hid (Below w.heap.size w W1):=by rw [hW1]; exact (Below.refl _ _).alloc (Nat.le_refl _) _
  have c0:W1.cell? ⟨r,0,none⟩=some (.int .i64 k):=by
    rw [cellC (C:=C) (T:=42) (by rw [hW1,← hr]; exact one_alloc _ _)]; exact h0
  have hkb:(k != 5)=true:=bne_iff_ne.mpr hk
  have HRR:Hid (w.heap.size=r):=hr
  clear h0 hr
  go_enter Tryz.func60,Tryz.ntmps60
  go_upto_region 1 with fail
  rw [← hW1,HRR.out]
  clear hW1
  go_wp2
  go_returns
  exact ⟨rfl,HB.out⟩
set_option maxRecDepth 20000 in
theorem rScore_ref (C:Array Value) (k:Int) (hk:k ≠ 4) (h0:C[0]?=some (.int .i64 k)) (s:ByteArray) (w:World):Calls Tryz.prog 120 #[.agg C,.string s] w fun e w'=>e=.returned (.tuple #[.int .i64 0,.bool false,.int .i64 4])∧Below w.heap.size w w':=by
  obtain ⟨W1,hW1⟩:∃ W1,W1=w.alloc (.cells C 42):=⟨_,rfl⟩
  obtain ⟨r,hr⟩:∃ r,w.heap.size=r:=⟨_,rfl⟩
  have HB:Hid (Below w.heap.size w W1):=by rw [hW1]; exact (Below.refl _ _).alloc (Nat.le_refl _) _
  have c0:W1.cell? ⟨r,0,none⟩=some (.int .i64 k):=by
    rw [cellC (C:=C) (T:=42) (by rw [hW1,← hr]; exact one_alloc _ _)]; exact h0
  have hkb:(k != 4)=true:=bne_iff_ne.mpr hk
  have HRR:Hid (w.heap.size=r):=hr
  clear h0 hr
  go_enter Tryz.func120,Tryz.ntmps120
  go_upto_region 1 with fail
  rw [← hW1,HRR.out]
  clear hW1
  go_wp2
  go_returns
  exact ⟨rfl,HB.out⟩
set_option maxRecDepth 20000 in
theorem rRank_ref (C:Array Value) (k:Int) (hk:k ≠ 4) (h0:C[0]?=some (.int .i64 k)) (s:ByteArray) (bk:Bool) (w:World):Calls Tryz.prog 122 #[.agg C,.string s,.bool bk] w fun e w'=>e=.returned (.tuple #[.int .i64 0,.bool false,.int .i64 4])∧Below w.heap.size w w':=by
  obtain ⟨W1,hW1⟩:∃ W1,W1=w.alloc (.cells C 42):=⟨_,rfl⟩
  obtain ⟨r,hr⟩:∃ r,w.heap.size=r:=⟨_,rfl⟩
  have HB:Hid (Below w.heap.size w W1):=by rw [hW1]; exact (Below.refl _ _).alloc (Nat.le_refl _) _
  have c0:W1.cell? ⟨r,0,none⟩=some (.int .i64 k):=by
    rw [cellC (C:=C) (T:=42) (by rw [hW1,← hr]; exact one_alloc _ _)]; exact h0
  have hkb:(k != 4)=true:=bne_iff_ne.mpr hk
  have HRR:Hid (w.heap.size=r):=hr
  clear h0 hr
  go_enter Tryz.func122,Tryz.ntmps122
  go_upto_region 1 with fail
  rw [← hW1,HRR.out]
  clear hW1
  go_wp2
  go_returns
  exact ⟨rfl,HB.out⟩
set_option maxRecDepth 20000 in
theorem rByRank_ref (C:Array Value) (k:Int) (hk:k ≠ 4) (h0:C[0]?=some (.int .i64 k)) (i n:Int) (bk:Bool) (w:World):Calls Tryz.prog 124 #[.agg C,.int .i64 i,.int .i64 n,.bool bk] w fun e w'=>e=.returned (.tuple #[.slice none 0 0,.int .i64 4])∧Below w.heap.size w w':=by
  obtain ⟨W1,hW1⟩:∃ W1,W1=w.alloc (.cells C 42):=⟨_,rfl⟩
  obtain ⟨r,hr⟩:∃ r,w.heap.size=r:=⟨_,rfl⟩
  have HB:Hid (Below w.heap.size w W1):=by rw [hW1]; exact (Below.refl _ _).alloc (Nat.le_refl _) _
  have c0:W1.cell? ⟨r,0,none⟩=some (.int .i64 k):=by
    rw [cellC (C:=C) (T:=42) (by rw [hW1,← hr]; exact one_alloc _ _)]; exact h0
  have hkb:(k != 4)=true:=bne_iff_ne.mpr hk
  have HRR:Hid (w.heap.size=r):=hr
  clear h0 hr
  go_enter Tryz.func124,Tryz.ntmps124
  go_upto_region 1 with fail
  rw [← hW1,HRR.out]
  clear hW1
  go_wp2
  go_returns
  exact ⟨rfl,HB.out⟩
set_option maxRecDepth 20000 in
theorem rScan_ref (C:Array Value) (k:Int) (hk:(k=1 ∨ k=2)) (h0:C[0]?=some (.int .i64 k)) (i n:Int) (w:World):Calls Tryz.prog 131 #[.agg C,.int .i64 i,.int .i64 n] w fun e w'=>e=.returned (.tuple #[.slice none 0 0,.int .i64 0,.int .i64 4])∧Below w.heap.size w w':=by
  obtain ⟨W1,hW1⟩:∃ W1,W1=w.alloc (.cells C 42):=⟨_,rfl⟩
  obtain ⟨r,hr⟩:∃ r,w.heap.size=r:=⟨_,rfl⟩
  have HB:Hid (Below w.heap.size w W1):=by rw [hW1]; exact (Below.refl _ _).alloc (Nat.le_refl _) _
  have c0:W1.cell? ⟨r,0,none⟩=some (.int .i64 k):=by
    rw [cellC (C:=C) (T:=42) (by rw [hW1,← hr]; exact one_alloc _ _)]; exact h0
  rcases hk with rfl | rfl <;> (
    have HRR:Hid (w.heap.size=r):=hr
    clear h0 hr
    go_enter Tryz.func131,Tryz.ntmps131
    go_upto_region 1 with fail
    rw [← hW1,HRR.out]
    clear hW1
    go_wp2
    go_returns
    exact ⟨rfl,HB.out⟩)
end Go.Proofs.YtiefeeoellagnaaGreatDoor.V
namespace Go.Proofs.YtiefeeoellagnaaGreatDoor.V
open Go.RowKit S5.IM
open S6 (Laid Lay)
set_option linter.unusedVariables false
set_option linter.unusedSimpArgs false
def RV (C:Array Value) (k a b:Int) (en it:ByteArray):Prop:=C.size=25∧C[0]?=some (.int .i64 k)∧C[10]?=some (.string en)∧C[11]?=some (.string ⟨#[]⟩)∧C[12]?=some (.int .i64 a)∧C[13]?=some (.int .i64 b)∧C[14]?=some (.slice none 0 0)∧C[15]?=some (.string it)∧C[16]?=some (.slice none 0 0)∧C[17]?=some (.slice none 0 0)∧C[18]?=some (.slice none 0 0)
theorem i53:(Tryz.prog.info? 42).map (·.size)=some 25:=by kernel_rfl
end Go.Proofs.YtiefeeoellagnaaGreatDoor.V
