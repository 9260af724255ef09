import Derived.Test.YtijambehfobopaaGreatDoorWAM
import Derived.Test.YtijambehfobopaaGreatDoorWAN
import Derived.Test.YtijambehfobopaaGreatDoorWAO
import Derived.Test.YtijambehfobopaaGreatDoorWAG
namespace Go.Proofs.YtijambehfobopaaGreatDoor
open Go.RowKit
set_option linter.unusedVariables false
theorem pk_sumV {p:ByteArray} {l:List LM.Item} (h:LM.Pk p.data.toList l):p.size=7 + sumV (valsOf l)∧(∀ x ∈ valsOf l,x.size ≤ 524288)∧(valsOf l).length ≤ 1048576:=by
  have hv:∀ x ∈ valsOf l,x.size ≤ 524288:=fun x hx=>by
    obtain ⟨it,hit,rfl⟩:=List.mem_map.1 hx
    rw [strB_size]; exact LM.val_len it (h.wf it hit)
  refine ⟨?_,hv,by rw [vals_len]; exact h.len⟩
  rw [← bsum_items _ hv,vals_its l h.wf,← list_len,h.eq,LM.build_len]
theorem own_base {B B':Nat} {W:World} {v:Value} {n:Nat} {xs:List Value} (h:W.ownsRow B 9 1 v n xs) (hB:B' ≤ B):W.ownsRow B' 9 1 v n xs:=by
  obtain ⟨h0,h | ⟨g,cap,cur,h1,hb,q⟩⟩:=h
  · exact ⟨h0,Or.inl h⟩
  · exact ⟨h0,Or.inr ⟨g,cap,cur,h1,Nat.le_trans hB hb,q⟩⟩
def withV (vs:List ByteArray) (i n:Nat) (os:List ByteArray):List ByteArray:=vs.take i ++ (os ++ vs.drop (i + n))
end Go.Proofs.YtijambehfobopaaGreatDoor
namespace Go.Proofs.YtijambehfobopaaGreatDoor
open Go.RowKit
set_option linter.unusedVariables false
/-! nodes as lists of texts. -/
def packN (x:List ByteArray):ByteArray:=strB (LM.build (itsOf x))
def ndOf (B:Nat) (x:List ByteArray):Nd:=(packN x,x.length,QM.lg B x)
def encN (n:Nd):Value:=.agg #[.string n.1,.int .i64 (n.2.1:Int),.bool n.2.2]
structure Fit (x:List ByteArray):Prop where
  len:x.length ≤ 1048576
  short:∀ t ∈ x,t.size ≤ 524288
  size:7 + LM.bsum (itsOf x) ≤ 1073741824
theorem its_app (a b:List ByteArray):itsOf (a ++ b)=itsOf a ++ itsOf b:=by simp [itsOf]
theorem its_take (a:List ByteArray) (k:Nat):itsOf (a.take k)=(itsOf a).take k:=by simp [itsOf,List.map_take]
theorem its_drop (a:List ByteArray) (k:Nat):itsOf (a.drop k)=(itsOf a).drop k:=by simp [itsOf,List.map_drop]
theorem its_len (a:List ByteArray):(itsOf a).length=a.length:=by simp [itsOf]
theorem Fit.pk {x:List ByteArray} (h:Fit x):LM.Pk (packN x).data.toList (itsOf x):=by
  unfold packN; rw [strB_list]
  refine ⟨fun it hit=>?_,by rw [its_len]; exact h.len,rfl,by rw [LM.build_len]; exact h.size⟩
  obtain ⟨v,hv,rfl⟩:=List.mem_map.1 hit
  exact LM.itemOf_wf _ (by rw [list_len]; exact h.short v hv)
theorem esz_small (v:ByteArray) (h:v.size ≤ 4096):LM.esz (LM.itemOf v.data.toList) ≤ 4112:=by
  have h1:=LM.bsz_le (LM.dsize (LM.itemOf v.data.toList))
  have h2:LM.dsize (LM.itemOf v.data.toList) ≤ 4107:=by
    unfold LM.itemOf
    split
    · unfold LM.dsize LM.numI; simp; unfold LM.nsize; (repeat' split) <;> omega
    · unfold LM.dsize LM.txtI LM.thead; simp only [Bool.false_eq_true,if_false,list_len]; (repeat' split) <;> omega
  unfold LM.esz; omega
theorem bsum_small (x:List ByteArray) (h:∀ t ∈ x,t.size ≤ 4096):LM.bsum (itsOf x) ≤ 4112 * x.length:=by
  induction x with
  | nil=>simp [itsOf,LM.bsum]
  | cons v x ih =>
    have h1:=esz_small v (h v (by simp))
    have h2:=ih (fun t ht=>h t (by simp [ht]))
    show LM.bsum (LM.itemOf v.data.toList :: itsOf x) ≤ _
    rw [LM.bsum_cons,List.length_cons]; omega
theorem fit_many {x:List ByteArray} (hl:x.length ≤ 8192) (h:∀ t ∈ x,t.size ≤ 4096):Fit x:=by
  have:=bsum_small x h
  exact ⟨by omega,fun t ht=>by have:=h t ht; omega,by omega⟩
theorem fit_one {v:ByteArray} (h:v.size ≤ 524288):Fit [v]:=by
  refine ⟨by simp,fun t ht=>by simp at ht; subst ht; exact h,?_⟩
  have:=LM.esz_le (LM.itemOf v.data.toList) (LM.itemOf_wf _ (by rw [list_len]; exact h))
  show 7 + LM.bsum [LM.itemOf v.data.toList] ≤ _
  rw [LM.bsum_cons,LM.bsum_nil]; omega
theorem fit_node {E B:Nat} {N:QM.NL} (h:QM.Inv E B N) {x:List ByteArray} (hx:x ∈ N):Fit x:=by
  rcases hl:QM.lg B x with _ | _
  · have h1:=QM.lg_not h hx hl
    have h2:=h.few x hx
    have h3:=h.le
    have h4:=h.lb
    exact fit_many (by omega) (fun t ht=>by have:=h1 t ht; omega)
  · obtain ⟨t,rfl,_⟩:=QM.lg_alone h hx hl
    exact fit_one (h.short _ hx t (by simp))
theorem newI_set (x:List ByteArray) (k n:Nat) (vs:List ByteArray):newI (itsOf x) k n vs=itsOf (x.take k ++ (vs ++ x.drop (k + n))):=by
  unfold newI; rw [its_app,its_app,its_take,its_drop]; rfl
open Classical in
theorem outS_fit {x:List ByteArray} (P:Prop) (h:P) (x':List LM.Item) (e:x'=itsOf x):outS P (LM.build x')=.tuple #[.string (packN x),.int .i64 0]:=by
  unfold outS packN; rw [if_pos h,e]
theorem fitI_of {x:List ByteArray} {k n:Nat} {vs:List ByteArray} (hk:k + n ≤ x.length) (hv:∀ v ∈ vs,v.size ≤ 524288) (h:Fit (x.take k ++ (vs ++ x.drop (k + n)))):fitI (itsOf x) k n vs:=by
  refine ⟨hv,?_,?_⟩
  · have:=h.len; simp only [List.length_append,List.length_take,List.length_drop] at this; rw [its_len]; omega
  · rw [newI_set]; exact h.size
end Go.Proofs.YtijambehfobopaaGreatDoor
namespace Go.Proofs.YtijambehfobopaaGreatDoor
open Go.RowKit
set_option linter.unusedVariables false
set_option linter.unusedSimpArgs false
/-! the leaves of the program. -/
def cntN (ns:List Nd):Nat:=(ns.map (fun n=>n.2.1)).sum
theorem cntN_app (a b:List Nd):cntN (a ++ b)=cntN a + cntN b:=by simp [cntN]
theorem cntN_take (ns:List Nd) (i:Nat) (h:i < ns.length):cntN (ns.take (i + 1))=cntN (ns.take i) + ns[i].2.1:=by
  rw [take_snoc ns i h,cntN_app]; simp [cntN]
theorem cntN_take_le (ns:List Nd) (i:Nat):cntN (ns.take i) ≤ cntN ns:=by
  conv=>rhs; rw [← List.take_append_drop i ns,cntN_app]
  omega
theorem isLarge_any (E B:Nat) (s:ByteArray) (hs:s.size ≤ 281474976710656) (hB:B ≤ 4096) (w:World):Calls Tryz.prog 52 #[.agg #[.int .i64 (E:Int),.int .i64 (B:Int)],.string s] w fun e w'=>e=.returned (.bool (QM.big B s))∧Below w.heap.size w w':=by
  have HB:Hid (decide ((s.size:Int) > (B:Int))=QM.big B s):=by show _=_; unfold QM.big; congr 1; simp
  have HB2:Hid (decide ((B:Int) < (s.size:Int))=QM.big B s):=HB.out
  go_enter Tryz.func52,Tryz.ntmps52
  go_wp2
  go_returns
  exact ⟨rfl,(Below.refl _ w).alloc (Nat.le_refl _) _⟩
theorem hasRoom_any (E B:Nat) (x:List ByteArray) (p:ByteArray) (hE:E ≤ 4096) (hx:x.length ≤ 1048576) (w:World):Calls Tryz.prog 64 #[.agg #[.int .i64 (E:Int),.int .i64 (B:Int)],.agg #[.string p,.int .i64 (x.length:Int),.bool (QM.lg B x)]] w fun e w'=>e=.returned (.bool (QM.room E B x))∧Below w.heap.size w w':=by
  have HB:Hid (QM.room E B x=(decide (x.length < E) && !QM.lg B x)):=rfl
  generalize QM.lg B x=l at *
  generalize x.length=n at *
  by_cases h:n < E
  · have h1:(n:Int) < (E:Int):=by omega
    have HC:Hid (QM.room E B x=!l):=by show _=_; rw [HB.out]; simp [h]
    clear h HB
    go_enter Tryz.func64,Tryz.ntmps64
    go_wp2
    go_returns
    exact ⟨by rw [HC.out]; rfl,((Below.refl _ w).alloc (Nat.le_refl _) _).alloc (by simp) _⟩
  · have h1:¬ ((n:Int) < (E:Int)):=by omega
    have HC:Hid (QM.room E B x=false):=by show _=_; rw [HB.out]; simp [h]
    clear h HB
    go_enter Tryz.func64,Tryz.ntmps64
    go_wp2
    go_returns
    exact ⟨by rw [HC.out]; rfl,((Below.refl _ w).alloc (Nat.le_refl _) _).alloc (by simp) _⟩
theorem two_rows {w w1:World} {a b:Obj} (h:Below ((w.alloc a).alloc b).heap.size ((w.alloc a).alloc b) w1):Below w.heap.size w w1∧w1.heap[w.heap.size]?=some a∧w1.heap[w.heap.size + 1]?=some b:=by
  refine ⟨bel_to (((Below.refl _ w).alloc (Nat.le_refl _) _).alloc (by simp) _) h (Nat.le_refl _),keep_row (keep_row (one_alloc w a) ((Below.refl _ _).alloc (Nat.le_refl _) _)) h,?_⟩
  have:=one_alloc (w.alloc a) b
  rw [World.size_alloc] at this
  exact keep_row this h
theorem three_rows {w w1:World} {a b c:Obj} (h:Below (((w.alloc a).alloc b).alloc c).heap.size (((w.alloc a).alloc b).alloc c) w1):Below w.heap.size w w1∧w1.heap[w.heap.size]?=some a∧w1.heap[w.heap.size + 1]?=some b:=by
  have h2:Below ((w.alloc a).alloc b).heap.size ((w.alloc a).alloc b) w1:=bel_to ((Below.refl _ _).alloc (Nat.le_refl _) _) h (Nat.le_refl _)
  exact two_rows h2
theorem below_set3 {w w1:World} {g:Nat} (h:Below w.heap.size w w1) (hg:w.heap.size ≤ g) (a b c:Value):Below w.heap.size w (((w1.setCell ⟨g,0,none⟩ a).setCell ⟨g,1,none⟩ b).setCell ⟨g,2,none⟩ c):=
  ((h.setCell (p:=⟨g,0,none⟩) hg _).setCell (p:=⟨g,1,none⟩) hg _).setCell (p:=⟨g,2,none⟩) hg _
theorem srow_new (W:World) (s:ByteArray) (n:Nat) (hn:n=W.heap.size):SRow (W.alloc (.cells #[.string s] 9)) (.slice (some ⟨n,0,none⟩) 1 1) [s]:=Or.inr ⟨n,0,1,rfl,fun j hj=>by
  have hj0:j=0:=by simpa using hj
  subst hj0; subst hn
  exact (row1 (one_alloc W (.cells #[.string s] 9))).1⟩
open Classical in
set_option maxHeartbeats 1000000 in
theorem alone_any (E B:Nat) (s:ByteArray) (hs:s.size ≤ 524288) (hB:B ≤ 4096) (w:World) (hw:Lay w):Calls Tryz.prog 67 #[.agg #[.int .i64 (E:Int),.int .i64 (B:Int)],.string s] w fun e w'=>e=.returned (encN (ndOf B [s]))∧Below w.heap.size w w':=by
  have HW:Hid (Lay w):=hw
  have HN:Hid (∀ v W,SRow W v [s] → Lay W → Calls Tryz.prog 100 #[v] W fun e w'=>e=.returned (.tuple #[.string (packN [s]),.int .i64 0])∧Below W.heap.size W w'):=fun v W hv hW=>by
    have:=New_any v [s] (by simp) (fun x hx=>by simp at hx; subst hx; omega) W hv hW
    have hf:fitI [] 0 0 [s]:=fitI_of (x:=[]) (k:=0) (n:=0) (by simp) (fun v hv=>by simp at hv; subst hv; exact hs) (by simpa using fit_one hs)
    rw [outS_fit (x:=[s]) _ hf _ (by rw [nI_nil]; rfl)] at this
    exact this
  have HL:Hid (∀ W,Calls Tryz.prog 52 #[.agg #[.int .i64 (E:Int),.int .i64 (B:Int)],.string s] W fun e w'=>e=.returned (.bool (QM.big B s))∧Below W.heap.size W w'):=fun W=>isLarge_any E B s (by omega) hB W
  have HE:Hid (encN (ndOf B [s])=.agg #[.string (packN [s]),.int .i64 1,.bool (QM.big B s)]):=rfl
  clear hw
  generalize packN [s]=P at *
  generalize QM.big B s=b at *
  go_enter Tryz.func67,Tryz.ntmps67
  go_wp2_with fail
  refine (show Calls _ _ _ _ _ from HN.out _ _ (srow_new _ _ _ (by simp)) (HW.out.on ((((Below.refl _ w).alloc (Nat.le_refl _) _).alloc (by simp) _).alloc (by simp; omega) _))).mono ?_
  rintro e w1 ⟨rfl,hb1⟩
  obtain ⟨hb2,r1,r2⟩:=three_rows hb1
  have HB1:Hid (Below w.heap.size w w1):=hb2
  have HR2:Hid _:=r2
  obtain ⟨b0,b1,bf⟩:=prow2 r1
  clear hb1 r1 r2 hb2
  go_wp2_with fail
  refine (show Calls _ _ _ _ _ from HL.out _).mono ?_
  rintro e w2 ⟨rfl,hb2⟩
  have HB2:Hid (Below w.heap.size w w2):=bel_to HB1.out hb2 (Nat.le_refl _)
  have hr3:=keep_row HR2.out hb2
  obtain ⟨c0,c1,c2,cf⟩:=row3 hr3
  have HG:Hid _:=heap_set3 w2 (w.heap.size + 1) 55 _ _ _ (.string P) (.int .i64 1) (.bool b) hr3
  clear hb2 b0 b1 bf hr3
  go_wp2
  obtain ⟨g0,g1,g2,gf⟩:=row3 HG.out.1
  exact bodyPost_ret (v:=.agg #[.string P,.int .i64 1,.bool b]) (by simp [results,Tryz.results67,go_sem,g0,g1,g2]) rfl ⟨by rw [HE.out],below_set3 HB2.out (by omega) _ _ _⟩
open Classical in
set_option maxHeartbeats 1000000 in
theorem with_any (B:Nat) (x:List ByteArray) (hx:Fit x) (k:Nat) (hk:k ≤ x.length) (s:ByteArray) (hs:s.size ≤ 524288) (hf:Fit (x.take k ++ (s :: x.drop k))) (l:Bool) (w:World) (hw:Lay w):Calls Tryz.prog 66 #[.agg #[.string (packN x),.int .i64 (x.length:Int),.bool l],.int .i64 (k:Int),.string s] w fun e w'=>e=.returned (encN (packN (x.take k ++ (s :: x.drop k)),x.length + 1,l))∧Below w.heap.size w w':=by
  have HW:Hid (Lay w):=hw
  have hl20:=hx.len
  have HI:Hid (∀ v W,SRow W v [s] → Lay W → Calls Tryz.prog 99 #[.string (packN x),.int .i64 (k:Int),v] W fun e w'=>e=.returned (.tuple #[.string (packN (x.take k ++ (s :: x.drop k))),.int .i64 0])∧Below W.heap.size W w'):=fun v W hv hW=>by
    have:=Insert_in (packN x) (itsOf x) hx.pk k (by rw [its_len]; exact hk) v [s] (by simp) (fun x hx=>by simp at hx; subst hx; omega) W hv hW
    have hf':fitI (itsOf x) k 0 [s]:=fitI_of (by omega) (fun v hv=>by simp at hv; subst hv; exact hs) (by simpa using hf)
    rw [outS_fit (x:=x.take k ++ (s :: x.drop k)) _ hf' _ (by rw [newI_set]; simp)] at this
    exact this
  have HE:Hid (∀ p,encN (p,x.length + 1,l)=.agg #[.string p,.int .i64 ((x.length:Int) + 1),.bool l]):=fun p=>by unfold encN; simp
  clear hw hf hx
  generalize packN x=P at *
  generalize packN (x.take k ++ (s :: x.drop k))=Q at *
  generalize x.length=n at *
  go_enter Tryz.func66,Tryz.ntmps66
  go_wp2_with fail
  refine (show Calls _ _ _ _ _ from HI.out _ _ (srow_new _ _ _ (by simp)) (HW.out.on ((((Below.refl _ w).alloc (Nat.le_refl _) _).alloc (by simp) _).alloc (by simp; omega) _))).mono ?_
  rintro e w1 ⟨rfl,hb1⟩
  obtain ⟨hb2,r1,r2⟩:=three_rows hb1
  have HB1:Hid (Below w.heap.size w w1):=hb2
  obtain ⟨b0,b1,b2,bf⟩:=row3 r1
  obtain ⟨c0,c1,c2,cf⟩:=row3 r2
  have HG:Hid _:=heap_set3 w1 (w.heap.size + 1) 55 _ _ _ (.string Q) (.int .i64 ((n:Int) + 1)) (.bool l) r2
  clear hb1 r1 r2 hb2
  go_wp2
  obtain ⟨g0,g1,g2,gf⟩:=row3 HG.out.1
  exact bodyPost_ret (v:=.agg #[.string Q,.int .i64 ((n:Int) + 1),.bool l]) (by simp [results,Tryz.results66,go_sem,g0,g1,g2]) rfl ⟨by rw [HE.out],below_set3 HB1.out (by omega) _ _ _⟩
end Go.Proofs.YtijambehfobopaaGreatDoor
namespace Go.Proofs.YtijambehfobopaaGreatDoor
open Go.RowKit
set_option linter.unusedVariables false
set_option linter.unusedSimpArgs false
structure LS (W:World) (b0 g r c:Nat) (rest:List Value) (nv:Value) (E B:Nat) (ns:List Nd):Prop where
  hd:W.heap[g]?=some (.cells #[.int .i64 (E:Int),.int .i64 (B:Int),.int .i64 (cntN ns:Int),.slice (some ⟨r,0,none⟩) 1 c] 62)
  rw_:W.heap[r]?=some (.cells (nv :: .int .i64 (cntN ns:Int) :: rest).toArray 69)
  nd:NV W b0 nv ns
  hg:b0 ≤ g
  hr:b0 ≤ r
theorem NV.on {W W':World} {b0:Nat} {v:Value} {ns:List Nd} (h:NV W b0 v ns) (hb:Below W.heap.size W W'):NV W' b0 v ns:=by
  rcases h with h | ⟨E,c,h1,h2,h3⟩
  · exact Or.inl h
  · exact Or.inr ⟨E,c,h1,h2,h3.on hb⟩
theorem LS.on {W W':World} {b0 g r c:Nat} {rest:List Value} {nv:Value} {E B:Nat} {ns:List Nd} (h:LS W b0 g r c rest nv E B ns) (hb:Below W.heap.size W W'):LS W' b0 g r c rest nv E B ns:=
  ⟨keep_row h.hd hb,keep_row h.rw_ hb,h.nd.on hb,h.hg,h.hr⟩
theorem lrow4 {w:World} {g T:Nat} {v0 v1 v2 v3:Value} (h:w.heap[g]?=some (.cells #[v0,v1,v2,v3] T)):w.cell? ⟨g,0,none⟩=some v0∧w.cell? ⟨g,1,none⟩=some v1∧w.cell? ⟨g,2,none⟩=some v2∧w.cell? ⟨g,3,none⟩=some v3∧∀ j,w.frozen? ⟨g,j,none⟩=false:=by
  refine ⟨?_,?_,?_,?_,fun j=>frozen_of_row _ _ _ _ _ h⟩ <;> rw [cell_of_row _ _ _ _ _ _ h] <;> rfl
theorem lrow2 {w:World} {g T:Nat} {v0 v1:Value} {rest:List Value} (h:w.heap[g]?=some (.cells (v0 :: v1 :: rest).toArray T)):w.cell? ⟨g,0,none⟩=some v0∧w.cell? ⟨g,1,none⟩=some v1∧∀ j,w.frozen? ⟨g,j,none⟩=false:=by
  refine ⟨?_,?_,fun j=>frozen_of_row _ _ _ _ _ h⟩ <;> rw [cell_of_row _ _ _ _ _ _ h] <;> simp
theorem NV.form {W:World} {b0:Nat} {v:Value} {ns:List Nd} (h:NV W b0 v ns):∃ P c,v=.slice P ns.length c∧ns.length ≤ c:=by
  rcases h with ⟨rfl,rfl⟩ | ⟨E,c,h1,h2,h3⟩
  · exact ⟨none,0,rfl,by simp⟩
  · exact ⟨_,c,h1,h3.le⟩
abbrev plV (n k:Nat):Value:=.agg #[.int .i64 0,.int .i64 (n:Int),.int .i64 (k:Int)]
abbrev ptr (g:Nat):Value:=.pointer (some ⟨g,0,none⟩)
theorem cell_a1 {w:World} {a:Addr} {v:Value} (h:w.cell? a=some v) (o:Obj):(w.alloc o).cell? a=some v:=cell_on h ((Below.refl _ _).alloc (Nat.le_refl _) _)
theorem cell_a2 {w:World} {a:Addr} {v:Value} (h:w.cell? a=some v) (o o':Obj):((w.alloc o).alloc o').cell? a=some v:=cell_a1 (cell_a1 h o) o'
section
variable {b0 g r c:Nat} {rest:List Value} {nv:Value} {E B:Nat} {ns:List Nd}
def hasQ (n:Nat) (i:Int):Bool:=decide (0 ≤ i∧i < (n:Int))
def mayQ (n:Nat) (s:ByteArray):Int:=if 524288 < s.size then 2 else if 1048576 ≤ n then 3 else 0
theorem mayJoin_any (s:ByteArray) (hs:s.size ≤ 281474976710656) (w:World) (h:LS w b0 g r c rest nv E B ns):Calls Tryz.prog 62 #[ptr g,.string s] w fun e w'=>e=.returned (.int .i64 (mayQ (cntN ns) s))∧w'=w:=by
  obtain ⟨l0,l1,l2,l3,lf⟩:=lrow4 h.hd
  clear h
  have HM:Hid (mayQ (cntN ns) s=if 524288 < s.size then 2 else if 1048576 ≤ cntN ns then 3 else 0):=rfl
  generalize cntN ns=n at *
  by_cases h0:524288 < s.size
  · have HD:Hid (mayQ n s=2):=by show _=_; rw [HM.out,if_pos h0]
    go_enter Tryz.func62,Tryz.ntmps62
    go_wp2
    go_returns
    exact ⟨by rw [HD.out]; rfl,rfl⟩
  · by_cases h1:1048576 ≤ n
    · have HD:Hid (mayQ n s=3):=by show _=_; rw [HM.out,if_neg h0,if_pos h1]
      have h2:(1048576:Int) ≤ (n:Int):=by omega
      go_enter Tryz.func62,Tryz.ntmps62
      go_wp2
      go_returns
      exact ⟨by rw [HD.out]; rfl,rfl⟩
    · have HD:Hid (mayQ n s=0):=by show _=_; rw [HM.out,if_neg h0,if_neg h1]
      have h2:¬ ((1048576:Int) ≤ (n:Int)):=by omega
      go_enter Tryz.func62,Tryz.ntmps62
      go_wp2
      go_returns
      exact ⟨by rw [HD.out]; rfl,rfl⟩
set_option maxHeartbeats 1000000 in
theorem node_any (n k:Nat) (hn:n < ns.length) (hl:ns.length ≤ 1073741824) (w:World) (h:LS w b0 g r c rest nv E B ns):Calls Tryz.prog 65 #[ptr g,plV n k] w fun e w'=>e=.returned (encN ns[n])∧Below w.heap.size w w':=by
  obtain ⟨l0,l1,l2,l3,lf⟩:=lrow4 h.hd
  obtain ⟨r0,r1,rf⟩:=lrow2 h.rw_
  rcases h.nd with ⟨_,rfl⟩ | ⟨X,cc,rfl,hX,hN⟩
  · simp at hn
  obtain ⟨x0,x1,x2⟩:=hN.cells n hn
  have HE:Hid (encN ns[n]=.agg #[.string ns[n].1,.int .i64 (ns[n].2.1:Int),.bool ns[n].2.2]):=rfl
  generalize ns[n].1=P at *
  generalize ns[n].2.1=Cn at *
  generalize ns[n].2.2=Lg at *
  have hz0:(0:Int) ≤ (n:Int):=by omega
  have hz1:(n:Int) < (ns.length:Int):=by omega
  have L3:=cell_a2 l3
  have R0:=cell_a2 r0
  have X0:=cell_a2 x0
  have X1:=cell_a2 x1
  have X2:=cell_a2 x2
  clear hN h
  go_enter Tryz.func65,Tryz.ntmps65
  go_wp2
  go_region
  all_goals
    go_wp2
    go_returns
    exact ⟨by rw [HE.out],(((Below.refl _ w).alloc (Nat.le_refl _) _).alloc (by simp) _).drew⟩
set_option maxHeartbeats 1000000 in
theorem gap_front (w:World):Calls Tryz.prog 22 #[ptr g,.bool true] w fun e w'=>e=.returned (plV 0 0)∧Below w.heap.size w w':=by
  go_enter Tryz.func22,Tryz.ntmps22
  go_wp2
  go_returns
  exact ⟨rfl,(Below.refl _ w).alloc (Nat.le_refl _) _⟩
set_option maxHeartbeats 1000000 in
theorem gap_back (hl:ns.length ≤ 1073741824) (w:World) (h:LS w b0 g r c rest nv E B ns):Calls Tryz.prog 22 #[ptr g,.bool false] w fun e w'=>e=.returned (plV ns.length 0)∧Below w.heap.size w w':=by
  obtain ⟨l0,l1,l2,l3,lf⟩:=lrow4 h.hd
  obtain ⟨r0,r1,rf⟩:=lrow2 h.rw_
  obtain ⟨P,cc,rfl,hcc⟩:=h.nd.form
  have L3:=cell_a1 l3
  have R0:=cell_a1 r0
  clear h
  go_enter Tryz.func22,Tryz.ntmps22
  go_wp2
  go_returns
  exact ⟨rfl,(Below.refl _ w).alloc (Nat.le_refl _) _⟩
theorem gap_n (f:Bool) (hl:ns.length ≤ 1073741824) (w:World) (h:LS w b0 g r c rest nv E B ns):Calls Tryz.prog 22 #[ptr g,.bool f] w fun e w'=>e=.returned (plV (if f then 0 else ns.length) 0)∧Below w.heap.size w w':=by
  cases f with
  | true=>exact gap_front w
  | false=>exact gap_back hl w h
theorem rowA3 {w:World} {g T:Nat} {v0 v1 v2:Value} (h:w.heap[g]?=some (.cells #[v0,v1,v2] T)):(∀ o,(w.alloc o).cell? ⟨g,0,none⟩=some v0)∧(∀ o,(w.alloc o).cell? ⟨g,1,none⟩=some v1)∧(∀ o,(w.alloc o).cell? ⟨g,2,none⟩=some v2)∧∀ o j,(w.alloc o).frozen? ⟨g,j,none⟩=false:=by
  obtain ⟨h0,h1,h2,_⟩:=row3 h
  exact ⟨cell_a1 h0,cell_a1 h1,cell_a1 h2,fun o j=>frozen_of_row _ _ _ _ _ (keep_row h ((Below.refl _ _).alloc (Nat.le_refl _) _))⟩
set_option maxHeartbeats 1000000 in
theorem end_none (f:Bool) (hc:cntN ns=0) (hl:ns.length ≤ 1073741824) (w:World) (h:LS w b0 g r c rest nv E B ns):Calls Tryz.prog 63 #[ptr g,.bool f] w fun e w'=>e=.returned (.tuple #[plV 0 0,.bool false])∧Below w.heap.size w w':=by
  have HL:Hid _:=h
  have HG:Hid (∀ W,LS W b0 g r c rest nv E B ns → _):=fun W hW=>gap_n f hl W hW
  generalize (if f then 0 else ns.length)=n at HG
  clear h
  go_enter Tryz.func63,Tryz.ntmps63
  go_wp2_with fail
  refine (show Calls _ _ _ _ _ from HG.out _ (HL.out.on ((Below.refl _ w).alloc (Nat.le_refl _) _))).mono ?_
  rintro e w1 ⟨rfl,hb1⟩
  have HB1:Hid (Below w.heap.size w w1):=bel_to ((Below.refl _ w).alloc (Nat.le_refl _) _) hb1 (Nat.le_refl _)
  have hL1:=(HL.out.on ((Below.refl _ w).alloc (Nat.le_refl _) (.cells #[.int .i64 0,.int .i64 0,.int .i64 0] 65))).on hb1
  have hr:=keep_row (one_alloc w (.cells #[.int .i64 0,.int .i64 0,.int .i64 0] 65)) hb1
  obtain ⟨C0,C1,C2,CF⟩:=rowA3 hr
  have HR:Hid _:=heap_set3 (w1.alloc (.cells #[.int .i64 0,.int .i64 (n:Int),.int .i64 0] 65)) w.heap.size 65 _ _ _ (.int .i64 0) (.int .i64 0) (.int .i64 0) (keep_row hr ((Below.refl _ _).alloc (Nat.le_refl _) _))
  obtain ⟨l0,l1,l2,l3,lf⟩:=lrow4 hL1.hd
  rw [hc] at l2
  have L2:=cell_a1 l2
  clear hL1 hr hb1
  go_wp2
  obtain ⟨g0,g1,g2,gf⟩:=row3 HR.out.1
  exact bodyPost_ret (v:=.tuple #[plV 0 0,.bool false]) (by simp [results,Tryz.results63,go_sem,g0,g1,g2]) rfl ⟨rfl,below_set3 (HB1.out.alloc HB1.out.size _) (Nat.le_refl _) _ _ _⟩
set_option maxHeartbeats 1000000 in
theorem end_front (hc:0 < cntN ns) (hl:ns.length ≤ 1073741824) (w:World) (h:LS w b0 g r c rest nv E B ns):Calls Tryz.prog 63 #[ptr g,.bool true] w fun e w'=>e=.returned (.tuple #[plV 0 0,.bool true])∧Below w.heap.size w w':=by
  have HL:Hid _:=h
  have HG:Hid (∀ W,Calls Tryz.prog 22 #[ptr g,.bool true] W _):=fun W=>gap_front W
  clear h
  go_enter Tryz.func63,Tryz.ntmps63
  go_wp2_with fail
  refine (show Calls _ _ _ _ _ from HG.out _).mono ?_
  rintro e w1 ⟨rfl,hb1⟩
  have HB1:Hid (Below w.heap.size w w1):=bel_to ((Below.refl _ w).alloc (Nat.le_refl _) _) hb1 (Nat.le_refl _)
  have hL1:=(HL.out.on ((Below.refl _ w).alloc (Nat.le_refl _) (.cells #[.int .i64 0,.int .i64 0,.int .i64 0] 65))).on hb1
  have hr:=keep_row (one_alloc w (.cells #[.int .i64 0,.int .i64 0,.int .i64 0] 65)) hb1
  obtain ⟨C0,C1,C2,CF⟩:=rowA3 hr
  have HR:Hid _:=heap_set3 (w1.alloc (.cells #[.int .i64 0,.int .i64 0,.int .i64 0] 65)) w.heap.size 65 _ _ _ (.int .i64 0) (.int .i64 0) (.int .i64 0) (keep_row hr ((Below.refl _ _).alloc (Nat.le_refl _) _))
  obtain ⟨l0,l1,l2,l3,lf⟩:=lrow4 hL1.hd
  have L2:=cell_a1 l2
  have hcz:¬ ((cntN ns:Int)=0):=by omega
  clear hL1 hr hb1
  go_wp2
  obtain ⟨g0,g1,g2,gf⟩:=row3 HR.out.1
  exact bodyPost_ret (v:=.tuple #[plV 0 0,.bool true]) (by simp [results,Tryz.results63,go_sem,g0,g1,g2]) rfl ⟨rfl,below_set3 (HB1.out.alloc HB1.out.size _) (Nat.le_refl _) _ _ _⟩
set_option maxHeartbeats 1000000 in
theorem beside_back (n k:Nat) (w:World) (h:LS w b0 g r c rest nv E B ns) (hn:n < ns.length) (hl:ns.length ≤ 1073741824):Calls Tryz.prog 86 #[ptr g,plV n k,.bool true] w fun e w'=>(e=.returned (if 0 < n then .tuple #[plV (n - 1) 0,.bool true] else .tuple #[plV 0 0,.bool false]))∧Below w.heap.size w w':=by
  clear h
  by_cases h0:0 < n
  · obtain ⟨m,rfl⟩:∃ m,n=m + 1:=⟨n - 1,by omega⟩
    have hz:(0:Int) < ((m + 1:Nat):Int):=by omega
    have HE:Hid ((if 0 < m + 1 then Value.tuple #[plV (m + 1 - 1) 0,.bool true] else .tuple #[plV 0 0,.bool false])=.tuple #[plV m 0,.bool true]):=by show _=_; rw [if_pos (by omega)]; rfl
    rw [HE.out]
    have hw1:IntKind.i64.wrap (((m + 1:Nat):Int) - 1)=(m:Int):=by rw [IntKind.wrap_i64] <;> omega
    go_enter Tryz.func86,Tryz.ntmps86
    go_wp2
    go_returns
    exact ⟨rfl,((Below.refl _ w).alloc (Nat.le_refl _) _).alloc (by simp) _⟩
  · have hn0:n=0:=by omega
    subst hn0
    have HE:Hid ((if 0 < 0 then Value.tuple #[plV (0 - 1) 0,.bool true] else .tuple #[plV 0 0,.bool false])=.tuple #[plV 0 0,.bool false]):=by show _=_; rw [if_neg (by omega)]
    rw [HE.out]
    go_enter Tryz.func86,Tryz.ntmps86
    go_wp2
    go_quiet (fail)
    go_wp2
    go_quiet (fail)
    go_wp2
    go_returns
    first
    | exact ⟨rfl,below_set3 (below_dn (((Below.refl _ w).alloc (Nat.le_refl _) _).alloc (by simp) _) _) (by omega) _ _ _⟩
    | exact ⟨rfl,below_set3 (below_dn (below_dn (((Below.refl _ w).alloc (Nat.le_refl _) _).alloc (by simp) _) _) _) (by omega) _ _ _⟩
set_option maxHeartbeats 1000000 in
theorem beside_fwd (n k:Nat) (w:World) (h:LS w b0 g r c rest nv E B ns) (hn:n < ns.length) (hl:ns.length ≤ 1073741824):Calls Tryz.prog 86 #[ptr g,plV n k,.bool false] w fun e w'=>(e=.returned (if n + 1 < ns.length then .tuple #[plV (n + 1) 0,.bool true] else .tuple #[plV 0 0,.bool false]))∧Below w.heap.size w w':=by
  obtain ⟨l0,l1,l2,l3,lf⟩:=lrow4 h.hd
  obtain ⟨r0,r1,rf⟩:=lrow2 h.rw_
  obtain ⟨P,cc,rfl,hcc⟩:=h.nd.form
  have L3:=cell_a2 l3
  have R0:=cell_a2 r0
  have hw1:IntKind.i64.wrap ((n:Int) + 1)=(n:Int) + 1:=by rw [IntKind.wrap_i64] <;> omega
  clear h
  by_cases h0:n + 1 < ns.length
  · have HE:Hid ((if n + 1 < ns.length then Value.tuple #[plV (n + 1) 0,.bool true] else .tuple #[plV 0 0,.bool false])=.tuple #[plV (n + 1) 0,.bool true]):=by show _=_; rw [if_pos h0]
    rw [HE.out]
    have hz:(n:Int) + 1 < (ns.length:Int):=by omega
    go_enter Tryz.func86,Tryz.ntmps86
    go_wp2
    go_quiet (fail)
    go_wp2
    go_returns
    exact ⟨rfl,below_set3 (below_dn (((Below.refl _ w).alloc (Nat.le_refl _) _).alloc (by simp) _) _) (by omega) _ _ _⟩
  · have HE:Hid ((if n + 1 < ns.length then Value.tuple #[plV (n + 1) 0,.bool true] else .tuple #[plV 0 0,.bool false])=.tuple #[plV 0 0,.bool false]):=by show _=_; rw [if_neg h0]
    rw [HE.out]
    have hz:¬ ((n:Int) + 1 < (ns.length:Int)):=by omega
    go_enter Tryz.func86,Tryz.ntmps86
    go_wp2
    go_quiet (fail)
    go_wp2
    go_quiet (fail)
    go_wp2
    go_returns
    first
    | exact ⟨rfl,below_set3 (below_dn (((Below.refl _ w).alloc (Nat.le_refl _) _).alloc (by simp) _) _) (by omega) _ _ _⟩
    | exact ⟨rfl,below_set3 (below_dn (below_dn (((Below.refl _ w).alloc (Nat.le_refl _) _).alloc (by simp) _) _) _) (by omega) _ _ _⟩
set_option maxHeartbeats 1000000 in
theorem join_any (w:World) (h:LS w b0 g r c rest nv E B ns):Calls Tryz.prog 97 #[ptr g,.int .i64 0] w fun e w'=>e=.returned (.tuple #[])∧Below w.heap.size w w':=by
  obtain ⟨l0,l1,l2,l3,lf⟩:=lrow4 h.hd
  clear h
  go_enter Tryz.func97,Tryz.ntmps97
  go_wp2
  go_returns
  exact ⟨rfl,Below.refl _ _⟩
set_option maxHeartbeats 1000000 in
theorem level_any (hl:ns.length ≤ 1024) (w:World) (h:LS w b0 g r c rest nv E B ns):Calls Tryz.prog 57 #[ptr g,.int .i64 0] w fun e w'=>e=.returned (.tuple #[])∧Below w.heap.size w w':=by
  have HL:Hid _:=h
  have HJ:Hid (∀ W,LS W b0 g r c rest nv E B ns → Calls Tryz.prog 97 #[ptr g,.int .i64 0] W _):=fun W hW=>join_any W hW
  obtain ⟨l0,l1,l2,l3,lf⟩:=lrow4 h.hd
  obtain ⟨r0,r1,rf⟩:=lrow2 h.rw_
  obtain ⟨P,cc,hnv,hcc⟩:=h.nd.form
  rw [hnv] at r0
  have HNV:Hid _:=hnv
  have hz:¬ ((1024:Int) < (ns.length:Int)):=by omega
  clear h hnv
  go_enter Tryz.func57,Tryz.ntmps57
  go_wp2_with fail
  refine (show Calls _ _ _ _ _ from HJ.out _ HL.out).mono ?_
  rintro e w1 ⟨rfl,hb1⟩
  have HB1:Hid (Below w.heap.size w w1):=hb1
  clear hb1
  go_wp2
  go_returns
  exact ⟨rfl,HB1.out⟩
set_option maxHeartbeats 1000000 in
theorem elements_any (X vc:Nat) (vs:List Nd) (o:Nat) (P:Option Addr) (hP:vs ≠ [] → P=some ⟨X,o * 3,none⟩) (hl:vs.length ≤ 1073741824) (hcnt:cntN vs ≤ 1073741824) (w:World) (hX:∀ t (ht:t < vs.length),w.cell? ⟨X,(o + t) * 3,none⟩=some (.string vs[t].1)∧w.cell? ⟨X,(o + t) * 3 + 1,none⟩=some (.int .i64 (vs[t].2.1:Int))∧w.cell? ⟨X,(o + t) * 3 + 2,none⟩=some (.bool vs[t].2.2)) :
    Calls Tryz.prog 53 #[.slice P vs.length vc] w fun e w'=>e=.returned (.int .i64 (cntN vs:Int))∧Below w.heap.size w w':=by
  have HX:Hid _:=hX
  have HP:Hid _:=hP
  clear hX hP
  have HCT:Hid _:=cntN_take vs
  have HCL:Hid _:=cntN_take_le vs
  go_enter Tryz.func53,Tryz.ntmps53
  go_wp2
  go_loopw [3,5,8] (fun cc _ ci wr=>∃ i:Nat,i ≤ vs.length∧ci=.int .i64 (i:Int)∧cc=.int .i64 (cntN (vs.take i):Int)∧Below w.heap.size w wr) (fun _ _ ci _=>vs.length - (intOf ci).toNat)
  case atStart=>exact ⟨0,by omega,rfl,by simp [cntN],Below.refl _ _⟩
  case round =>
    obtain ⟨i,hi,rfl,rfl,hb⟩:=hrel
    have HBR:Hid (Below w.heap.size w wr):=hb
    by_cases hlt:i < vs.length
    · have hP:=HP.out (by intro e; rw [e] at hlt; simp at hlt)
      subst hP
      obtain ⟨x0,x1,x2⟩:=HX.out i hlt
      have y0:=cell_on x0 hb
      have y1:=cell_on x1 hb
      have y2:=cell_on x2 hb
      have e3:(o + i) * 3=o * 3 + i * 3:=by omega
      rw [e3] at y0 y1 y2
      have hct:=HCT.out i hlt
      have hcl:=HCL.out (i + 1)
      generalize vs[i].1=Pk at *
      generalize vs[i].2.1=Cn at *
      generalize vs[i].2.2=Lg at *
      generalize hA:cntN (vs.take i)=A at *
      generalize hB:cntN (vs.take (i + 1))=Bq at *
      have HBq:Hid _:=hB
      have hz0:(0:Int) ≤ (i:Int):=by omega
      have hz1:(i:Int) < (vs.length:Int):=by omega
      have hbig:(A:Int) + (Cn:Int) ≤ 1073741824:=by omega
      clear hb x0 x1 x2 hB hA e3
      go_wp2
      go_roundw
      case rel=>exact ⟨i + 1,hlt,by congr 1,by rw [HBq.out]; congr 1; omega,HBR.out.alloc HBR.out.size _⟩
      case measure=>simp [intOf]; omega
    · have he:i=vs.length:=by omega
      subst he
      have HT:Hid (vs.take vs.length=vs):=List.take_length
      clear hb
      go_wp2
      go_returns
      exact ⟨by rw [HT.out]; rfl,HBR.out⟩
end
end Go.Proofs.YtijambehfobopaaGreatDoor
