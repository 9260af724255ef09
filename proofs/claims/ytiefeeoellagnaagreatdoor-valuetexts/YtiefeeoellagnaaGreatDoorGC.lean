import Derived.Test.YtiefeeoellagnaaGreatDoorGA
import Derived.Test.YtiefeeoellagnaaGreatDoorFH
import Derived.Test.YtiefeeoellagnaaGreatDoorAB
import Derived.Test.YtiefeeoellagnaaGreatDoorFI
import Derived.Laws.AppendOwnNone
import Derived.Laws.AppendOwn
import Derived.Lib.JoinLaws
namespace Go.Proofs.YtiefeeoellagnaaGreatDoor.V
open Go.RowKit S5.IM
open S5 (HoldsI)
open S6 (Laid itoaB)
set_option linter.unusedVariables false
set_option linter.unusedSimpArgs false
theorem HoldsI.form {w:World} {v:Value} {l:List Int} (h:HoldsI w v l):∃ p c,v=.slice p l.length c:=by
  obtain ⟨q,c,e,_⟩:=h
  exact ⟨q,c,e⟩
theorem HoldsI.at {w:World} {q:Option Addr} {n c:Nat} {l:List Int} (h:HoldsI w (.slice q n c) l) (j:Nat) (hj:j < l.length):∃ g,q=some ⟨g,0,none⟩∧w.cell? ⟨g,j,none⟩=some (.int .i64 l[j]):=by
  obtain ⟨q',c',e,h2⟩:=h
  injection e with e1 e2 e3
  obtain ⟨g,hg,hc⟩:=h2 (by intro e; rw [e] at hj; simp at hj)
  exact ⟨g,e1.trans hg,hc j hj⟩
set_option maxHeartbeats 4000000 in
set_option maxRecDepth 100000 in
theorem digits_row (v:Value) (l:List Int) (hl:l.length ≤ 1048576) (hi:∀ n ∈ l,-9223372036854775808 ≤ n∧n ≤ 9223372036854775807) (w:World) (hL:Laid w) (hv:HoldsI w v l) :
    Calls Tryz.prog 300 #[v] w fun e w'=>∃ v',e=.returned v'∧SRow w' v' (l.map itoaB)∧Below w.heap.size w w':=by
  obtain ⟨q,c,rfl⟩:=HoldsI.form hv
  have HV:Hid (HoldsI w (.slice q l.length c) l):=hv
  have HI:Hid _:=hi
  have HL:Hid (Laid w):=hL
  clear hv hi hL
  have hmk:=run_make_row' (P:=Tryz.prog) 34 9 (.string ⟨#[]⟩) 16 Tryz.underlying34 (by kernel_rfl) rfl .i64 .i64 l.length (by omega) (by omega)
  obtain ⟨W1,hW1⟩:∃ W1,W1=w.alloc (.cells (madeCells #[.string ⟨#[]⟩] l.length) 9):=⟨_,rfl⟩
  have HR:Hid (W1.heap[w.heap.size]?=some (.cells (madeCells #[.string ⟨#[]⟩] l.length) 9)):=by show _=_; rw [hW1]; exact one_alloc _ _
  have HB1:Hid (Below w.heap.size w W1):=by show Below _ _ _; rw [hW1]; exact (Below.refl _ _).alloc (Nat.le_refl _) _
  go_enter Tryz.func300,Tryz.ntmps300
  go_wp2
  rw [← hW1]
  clear hW1
  go_loopw [11] (fun cc wr=>∃ (k:Nat) (cur:Array Value),k ≤ l.length∧cc=.int .i64 k∧cur.size=l.length∧(∀ j,(hj:j < l.length) → j < k → cur[j]?=some (.string (itoaB l[j])))∧wr.heap[w.heap.size]?=some (.cells cur 9 (0,0))∧Below w.heap.size w wr) (fun cc _=>l.length - (intOf cc).toNat)
  case atStart=>exact ⟨0,_,by omega,rfl,size_madeCells _ _,by intro j hj h; omega,HR.out,HB1.out⟩
  case round =>
    obtain ⟨k,cur,hk,rfl,hcs,hcur,hrow,hbel⟩:=hrel
    have HCUR:Hid (∀ j,(hj:j < l.length) → j < k → cur[j]?=some (.string (itoaB l[j]))):=hcur
    have HROW:Hid (wr.heap[w.heap.size]?=some (.cells cur 9 (0,0))):=hrow
    have HBL:Hid (Below w.heap.size w wr):=hbel
    clear hcur hrow hbel
    by_cases hlt:k < l.length
    · obtain ⟨g,hq,hc⟩:=HoldsI.at (S5.HoldsI.keep HV.out HBL.out) k hlt
      subst hq
      generalize hnn:l[k]=n at hc
      have HNN:Hid (l[k]=n):=hnn
      have HD:Hid _:=S6.digits_any n (by rw [← hnn]; exact (HI.out _ (List.getElem_mem hlt)).1) (by rw [← hnn]; exact (HI.out _ (List.getElem_mem hlt)).2) wr (HL.out.on HBL.out)
      have hz0:(0:Int) ≤ (k:Int):=by omega
      have hz1:(k:Int) < (l.length:Int):=by omega
      clear hnn
      go_wp2_with fail
      refine (show Calls _ _ _ _ _ from HD.out).mono ?_
      rintro e w2 ⟨rfl,hb2⟩
      have hr2:w2.heap[w.heap.size]?=some (.cells cur 9 (0,0)):=keep_row HROW.out hb2
      obtain ⟨x,kc⟩:∃ x,w2.cell? ⟨w.heap.size,k,none⟩=some x:=by
        rw [cell_of_row _ _ _ _ _ _ hr2,Array.getElem?_eq_getElem (by omega)]; exact ⟨_,rfl⟩
      have kf:w2.frozen? ⟨w.heap.size,k,none⟩=false:=frozen_of_row _ _ _ _ _ hr2
      have HR2:Hid (w2.heap[w.heap.size]?=some (.cells cur 9 (0,0))):=hr2
      have HB2:Hid (Below w.heap.size w w2):=HBL.out.trans (hb2.mono HBL.out.size)
      clear hr2 hb2
      go_wp2
      go_roundw
      case rel =>
        refine ⟨k + 1,cur.set! k (.string (itoaB n)),by omega,by simp,by simp [hcs],?_,?_,HB2.out.setCell (p:=⟨w.heap.size,k,none⟩) (Nat.le_refl _) _⟩
        · intro j hj hjk
          rcases Nat.lt_or_ge j k with hjl | hjl
          · rw [Array.set!_eq_setIfInBounds,Array.getElem?_setIfInBounds_ne (by omega)]; exact HCUR.out j hj hjl
          · have:j=k:=by omega
            subst this
            rw [HNN.out]
            simp [Array.set!_eq_setIfInBounds,hcs,hj]
        · simp [World.setCell,Array.getElem?_modify,HR2.out]
      case measure=>simp [intOf]; omega
    · have hke:k=l.length:=by omega
      go_wp2
      go_ret
      refine ⟨_,rfl,Or.inr ⟨w.heap.size,0,l.length,by simp,fun j hj=>?_⟩,HBL.out⟩
      rw [List.length_map] at hj
      rw [Nat.zero_add,cell_of_row _ _ _ _ _ _ HROW.out,List.getElem_map]
      exact HCUR.out j hj (by omega)
end Go.Proofs.YtiefeeoellagnaaGreatDoor.V
namespace Go.Proofs.YtiefeeoellagnaaGreatDoor.V
open Go.RowKit S5.IM
open S5 (HoldsI)
open S5.P (MakerAt Kept)
set_option linter.unusedVariables false
set_option linter.unusedSimpArgs false
set_option maxHeartbeats 4000000 in
set_option maxRecDepth 100000 in
theorem intsetOf_any (V:Nat) (h3:W3 V) (v:Value) (l:List Int) (hl:l.length ≤ 1048576) (w:World) (hv:HoldsI w v l) :
    Calls Tryz.prog 508 #[.int .i64 V,v] w fun e w'=>e=.returned (.string (S5.strB (txt V l)))∧Below w.heap.size w w':=by
  obtain ⟨q,c,rfl⟩:=HoldsI.form hv
  have HV:Hid (HoldsI w (.slice q l.length c) l):=hv
  have hV8:V ≤ 8:=by rcases h3 with rfl | rfl | rfl <;> omega
  have hV2:2 ≤ V:=by rcases h3 with rfl | rfl | rfl <;> omega
  have H3:Hid (W3 V):=h3
  have hCV:V * l.length ≤ 8 * 1048576:=Nat.mul_le_mul hV8 hl
  obtain ⟨W1,hW1⟩:∃ W,W=w.alloc (.cells #[.pointer none,.slice none 0 0] 220):=⟨_,rfl⟩
  have HB1:Hid (Below w.heap.size w W1):=by show Below _ _ _; rw [hW1]; exact (Below.refl _ _).alloc (Nat.le_refl _) _
  have hGr:=S5.P.Grow_fresh w.heap.size w.heap.size (8 + V * l.length) 0 W1 (Nat.le_refl _) (by rw [hW1]; exact one_alloc _ _) HB1.out.size (by omega) (by omega)
  have hcast:((8 + V * l.length:Nat):Int)=8 + (V:Int) * (l.length:Int):=by rw [← Int.natCast_mul]; omega
  rw [hcast] at hGr
  have HGR:Hid _:=hGr
  have hm1:(V:Int) * (l.length:Int)=((V * l.length:Nat):Int):=by simp
  have hm0:0 ≤ (V:Int) * (l.length:Int)∧(V:Int) * (l.length:Int) ≤ 8388608:=by rw [hm1]; omega
  clear hv h3 hGr hcast hm1
  go_enter Tryz.func508,Tryz.ntmps508
  go_wp2_with fail
  rw [← hW1]
  refine (show Calls _ _ _ _ _ from HGR.out).mono ?_
  rintro e w1 ⟨rfl,hm,hb⟩
  have HM1:Hid (MakerAt w.heap.size w.heap.size 0 [] w1):=hm
  have HBA:Hid (Below w.heap.size w w1):=HB1.out.trans hb
  have HP1:Hid _:=putLow_any w.heap.size w.heap.size 0 [] (V:Int) 4 (Or.inr (Or.inl rfl)) w1 hm (by simp) (HB1.out.trans hb).size
  clear hm hb hW1
  go_wp2_with fail
  refine (show Calls _ _ _ _ _ from HP1.out).mono ?_
  rintro e w2 ⟨rfl,hm,hb,hk⟩
  have HM2:Hid (MakerAt w.heap.size w.heap.size 0 (leB 4 V) w2):=hm
  have HBB:Hid (Below w.heap.size w w2):=HBA.out.trans hb
  have HP2:Hid _:=putLow_any w.heap.size w.heap.size 0 (leB 4 V) (l.length:Int) 4 (Or.inr (Or.inl rfl)) w2 hm (by rw [leB_len]; omega) (HBA.out.trans hb).size
  clear hm hb hk
  go_wp2_with fail
  refine (show Calls _ _ _ _ _ from HP2.out).mono ?_
  rintro e w3 ⟨rfl,hm,hb,hk⟩
  have HM3:Hid (MakerAt w.heap.size w.heap.size 0 (leB 4 V ++ leB 4 (l.length:Nat)) w3):=hm
  have HBC:Hid (Below w.heap.size w w3):=HBB.out.trans hb
  clear hm hb hk
  go_wp2
  go_loopw [21] (fun cc wr=>∃ k:Nat,k ≤ l.length∧cc=.int .i64 k∧MakerAt w.heap.size w.heap.size 0 (leB 4 V ++ leB 4 (l.length:Nat) ++ body V (l.take k)) wr∧Below w.heap.size w wr) (fun cc _=>l.length - (intOf cc).toNat)
  case atStart=>exact ⟨0,by omega,rfl,by simpa [body] using HM3.out,HBC.out⟩
  case round =>
    obtain ⟨k,hk,rfl,hm,hb⟩:=hrel
    have HM:Hid (MakerAt w.heap.size w.heap.size 0 (leB 4 V ++ leB 4 (l.length:Nat) ++ body V (l.take k)) wr):=hm
    have HB:Hid (Below w.heap.size w wr):=hb
    clear hm hb
    by_cases hlt:k < l.length
    · obtain ⟨g,hq,hc⟩:=HoldsI.at (S5.HoldsI.keep HV.out HB.out) k hlt
      subst hq
      generalize hnn:l[k]=n at hc
      have HNN:Hid (l[k]=n):=hnn
      have hz0:(0:Int) ≤ (k:Int):=by omega
      have hz1:(k:Int) < (l.length:Int):=by omega
      have hkV:k * V ≤ 1048576 * 8:=Nat.mul_le_mul (by omega) hV8
      have HPN:Hid _:=putLow_any w.heap.size w.heap.size 0 _ n V H3.out wr HM.out (by simp only [List.length_append,leB_len,body_len,List.length_take]; rw [Nat.min_eq_left (by omega)]; omega) HB.out.size
      have HTK:Hid (body V (l.take (k + 1))=body V (l.take k) ++ leB V n):=by
        show _=_
        rw [List.take_succ_eq_append_getElem hlt,body_app,hnn]; simp [body]
      clear hnn hkV
      go_wp2_with fail
      refine (show Calls _ _ _ _ _ from HPN.out).mono ?_
      rintro e w4 ⟨rfl,hm,hb,_⟩
      have HM4:Hid (MakerAt w.heap.size w.heap.size 0 (leB 4 V ++ leB 4 (l.length:Nat) ++ body V (l.take (k + 1))) w4):=by show MakerAt _ _ _ _ _; rw [HTK.out,← List.append_assoc]; exact hm
      have HB4:Hid (Below w.heap.size w w4):=HB.out.trans hb
      clear hm hb
      go_wp2
      go_roundw
      case rel=>exact ⟨k + 1,hlt,by simp,HM4.out,HB4.out⟩
      case measure=>simp [intOf]; omega
    · have hke:k=l.length:=by omega
      subst hke
      have HST:Hid _:=S5.P.string_any w.heap.size w.heap.size 0 _ wr HM.out (by intro e; have:=congrArg List.length e; simp [leB_len] at this)
      rw [List.take_length,List.append_assoc] at HST
      have HTX:Hid (leB 4 V ++ (leB 4 (l.length:Nat) ++ body V l)=txt V l):=rfl
      go_wp2_with fail
      refine (show Calls _ _ _ _ _ from HST.out).mono ?_
      rintro e w5 ⟨rfl,hb⟩
      have HB5:Hid (Below w.heap.size w w5):=HB.out.trans hb
      clear hb
      rw [HTX.out]
      go_wp2
      go_ret
      exact ⟨rfl,HB5.out⟩
end Go.Proofs.YtiefeeoellagnaaGreatDoor.V
namespace Go.Proofs.YtiefeeoellagnaaGreatDoor.V
open Go.RowKit S5.IM
open S5 (HoldsI)
set_option linter.unusedVariables false
set_option linter.unusedSimpArgs false
structure Mod (b:Nat) (w w':World):Prop where
  os:w'.os=w.os
  tape:w'.tape=w.tape
  output:w'.output=w.output
  size:w.heap.size ≤ w'.heap.size
  oth:∀ k,k < w.heap.size → k ≠ b → w'.heap[k]?=w.heap[k]?
theorem Mod.below {b B:Nat} {w w':World} (h:Mod b w w') (hb:B ≤ b) (hw:B ≤ w.heap.size):Below B w w':=
  ⟨h.os,h.tape,h.output,h.size,fun k hk=>h.oth k (by omega) (by omega)⟩
theorem Mod.of {b:Nat} {w w':World} (h:Below w.heap.size w w'):Mod b w w':=⟨h.os,h.tape,h.output,h.size,fun k hk _=>h.block k hk⟩
theorem Mod.trans {b:Nat} {w w1 w2:World} (h:Mod b w w1) (h':Mod b w1 w2):Mod b w w2:=
  ⟨h'.os.trans h.os,h'.tape.trans h.tape,h'.output.trans h.output,Nat.le_trans h.size h'.size,fun k hk hn=>(h'.oth k (Nat.lt_of_lt_of_le hk h.size) hn).trans (h.oth k hk hn)⟩
theorem Mod.only {b:Nat} {w w':World} (h:Only w w' b):Mod b w w':=⟨h.os,h.tape,h.output,by rw [h.size]; exact Nat.le_refl _,fun k _ hn=>h.other k hn⟩
theorem Mod.row {b k:Nat} {w w':World} {o:Obj} (h:Mod b w w') (hk:w.heap[k]?=some o) (hn:k ≠ b):w'.heap[k]?=some o:=(h.oth k (row_lt hk) hn).trans hk
set_option maxHeartbeats 1000000 in
set_option maxRecDepth 20000 in
theorem BinSearch_nil (q:Option Addr) (c:Nat) (x:Int) (w:World):Calls Tryz.prog 495 #[.slice q 0 c,.int .i64 x] w fun e w'=>e=.returned (.tuple #[.int .i64 0,.bool false])∧w'=w:=by
  go_enter Tryz.func495,Tryz.ntmps495
  go_wp2
  go_rounds 1
  go_wp2
  go_returns
  exact ⟨rfl,rfl⟩
set_option maxHeartbeats 1000000 in
set_option maxRecDepth 20000 in
theorem widthOf_small (v:Value) (l:List Int) (h0:l ≠ []) (hl:l.length ≤ 1048576) (hs:∀ n ∈ l,-32768 ≤ n∧n ≤ 32767) (w:World) (hv:HoldsI w v l):Calls Tryz.prog 509 #[v] w fun e w'=>e=.returned (.int .i64 2)∧Below w.heap.size w w':=by
  obtain ⟨q,c,rfl⟩:=HoldsI.form hv
  have hp:0 < l.length:=List.length_pos_iff.2 h0
  obtain ⟨g,hq,c0⟩:=HoldsI.at hv 0 hp
  obtain ⟨g',hq',c1⟩:=HoldsI.at hv (l.length - 1) (by omega)
  subst hq
  injection hq' with hq'
  injection hq' with hq'
  subst hq'
  have s0:=hs _ (List.getElem_mem hp)
  have s1:=hs _ (List.getElem_mem (show l.length - 1 < l.length by omega))
  generalize l[0]=x at c0 s0
  generalize l[l.length - 1]=y at c1 s1
  clear hv hs h0
  have hi:IntKind.i64.wrap ((l.length:Int) - 1)=((l.length - 1:Nat):Int):=by rw [IntKind.wrap_i64]; omega
  have hne:((l.length:Int) == 0)=false:=beq_eq_false_iff_ne.2 (by omega)
  obtain ⟨N,hN⟩:∃ N,l.length=N:=⟨_,rfl⟩
  obtain ⟨M,hM⟩:∃ M,l.length - 1=M:=⟨_,rfl⟩
  have hMN:M < N:=by omega
  rw [hM] at hi c1
  rw [hN] at *
  have hz0:(0:Int) ≤ (M:Int):=by omega
  have hz1:(M:Int) < (N:Int):=by omega
  have hz2:(0:Int) < (N:Int):=by omega
  clear hN hM
  go_enter Tryz.func509,Tryz.ntmps509
  go_wp2
  go_quiet (fail)
  go_wp2
  go_ret
  exact ⟨rfl,below_dn (Below.refl _ _) _⟩
theorem txt_head (l:List Int) (p:ByteArray) (h:p=S5.strB (txt 2 l)):∃ h0:0 < p.size,p[0]=2:=by
  subst h
  have hl:(S5.strB (txt 2 l)).data.toList=2 :: ((0:UInt8) :: 0 :: 0 :: (leB 4 (l.length:Nat) ++ body 2 l)):=by rw [S5.strB_list]; rfl
  have hz:0 < (S5.strB (txt 2 l)).size:=by rw [← list_len,hl]; simp
  refine ⟨hz,?_⟩
  have:=at_list (S5.strB (txt 2 l)) 0 hz
  rw [hl] at this
  simpa using this.symm
theorem row6 {w:World} {g T:Nat} {v0 v1 v2 v3 v4 v5:Value} (h:w.heap[g]?=some (.cells #[v0,v1,v2,v3,v4,v5] T)) :
    w.cell? ⟨g,0,none⟩=some v0∧w.cell? ⟨g,1,none⟩=some v1∧w.cell? ⟨g,2,none⟩=some v2∧w.cell? ⟨g,3,none⟩=some v3∧w.cell? ⟨g,4,none⟩=some v4∧w.cell? ⟨g,5,none⟩=some v5∧∀ j,w.frozen? ⟨g,j,none⟩=false:=by
  refine ⟨?_,?_,?_,?_,?_,?_,fun j=>frozen_of_row _ _ _ _ _ h⟩ <;> rw [cell_of_row _ _ _ _ _ _ h] <;> rfl
set_option maxHeartbeats 1000000 in
set_option maxRecDepth 20000 in
theorem hold_small (b:Nat) (m n s z x:Int) (l0 l:List Int) (v:Value) (h0:l ≠ []) (hl:l.length ≤ 1048576) (hs:∀ n ∈ l,-32768 ≤ n∧n ≤ 32767) (w:World) (hb:w.heap[b]?=some (isC m n s (S5.strB (txt 2 l0)) z x)) (hv:HoldsI w v l) :
    Calls Tryz.prog 498 #[.pointer (some ⟨b,0,none⟩),v] w fun e w'=>e=.returned (.tuple #[])∧w'.heap[b]?=some (isC m n s (S5.strB (txt 2 l)) l.length x)∧Mod b w w':=by
  obtain ⟨p,hp⟩:∃ p,p=S5.strB (txt 2 l0):=⟨_,rfl⟩
  obtain ⟨hz,hp2⟩:=txt_head l0 p hp
  rw [← hp] at hb
  clear hp
  have HWD:Hid _:=widthOf_small v l h0 hl hs w hv
  have HIO:Hid (∀ W,Below w.heap.size w W → Calls Tryz.prog 508 #[.int .i64 2,v] W fun e w'=>e=.returned (.string (S5.strB (txt 2 l)))∧Below W.heap.size W w'):=fun W hW=>intsetOf_any 2 (Or.inl rfl) v l hl W (hv.keep hW)
  obtain ⟨Z,hZ⟩:∃ Z,S5.strB (txt 2 l)=Z:=⟨_,rfl⟩
  rw [hZ] at HIO
  rw [hZ]
  obtain ⟨q,c,rfl⟩:=HoldsI.form hv
  have HB:Hid (w.heap[b]?=some (isC m n s p z x)):=hb
  unfold isC at hb
  obtain ⟨c0,c1,c2,c3,c4,c5,cf⟩:=row6 hb
  have hz0:(0:Int) < (p.size:Int):=by omega
  have hpb:((p[0]).toNat:Int)=2:=by rw [hp2]; rfl
  clear hb hv hs h0 hZ
  go_enter Tryz.func498,Tryz.ntmps498
  go_wp2_with fail
  refine (show Calls _ _ _ _ _ from HWD.out).mono ?_
  rintro e w1 ⟨rfl,hb1⟩
  have HI1:Hid _:=HIO.out w1 hb1
  have HB1:Hid (w1.heap[b]?=some (isC m n s p z x)):=keep_row HB.out hb1
  have HM1:Hid (Mod b w w1):=Mod.of hb1
  clear hb1 c0 c1 c2 c3 c4 c5 cf
  go_wp2_with fail
  refine (show Calls _ _ _ _ _ from HI1.out).mono ?_
  rintro e w2 ⟨rfl,hb2⟩
  have HB2:Hid (w2.heap[b]?=some (isC m n s p z x)):=keep_row HB1.out hb2
  have HM2:Hid (Mod b w w2):=HM1.out.trans (Mod.of hb2)
  obtain ⟨c0,c1,c2,c3,c4,c5,cf⟩:=row6 HB2.out
  clear hb2
  go_upto_region 2 with fail
  obtain ⟨W3,hW3⟩:∃ W3,W3=w2.setCell ⟨b,3,none⟩ (.string Z):=⟨_,rfl⟩
  have HB3:Hid (W3.heap[b]?=some (isC m n s Z z x)):=by show _=_; rw [hW3,heap_setCell_same _ _ _ _ _ _ HB2.out]; rfl
  have HM3:Hid (Mod b w W3):=HM2.out.trans (Mod.only (by rw [hW3]; exact (Only.refl _ _).set _ _))
  rw [← hW3]
  clear hW3 c0 c1 c2 c3 c4 c5 cf
  obtain ⟨c0,c1,c2,c3,c4,c5,cf⟩:=row6 HB3.out
  go_wp2
  go_returns
  refine ⟨rfl,?_,HM3.out.trans (Mod.only ((Only.refl _ _).set _ _))⟩
  rw [heap_setCell_same _ _ _ _ _ _ HB3.out]; rfl
set_option maxHeartbeats 4000000 in
set_option maxRecDepth 100000 in
theorem merged_nil (g c:Nat) (v:Value) (l:List Int) (hl:l.length ≤ 1048576) (w:World) (hv:HoldsI w v l) :
    Calls Tryz.prog 499 #[.slice (some ⟨g,0,none⟩) 0 c,v] w fun e w'=>∃ v',e=.returned v'∧HoldsI w' v' l∧Below w.heap.size w w':=by
  obtain ⟨q,k,rfl⟩:=HoldsI.form hv
  have HV:Hid (HoldsI w (.slice q l.length k) l):=hv
  have HBS:Hid (∀ x W,Calls Tryz.prog 495 #[.slice (some ⟨g,0,none⟩) 0 c,.int .i64 x] W fun e w'=>e=.returned (.tuple #[.int .i64 0,.bool false])∧w'=W):=fun x W=>BinSearch_nil _ _ x W
  clear hv
  have hmk:=fun W=>run_make_room (P:=Tryz.prog) 35 3 (.int .i64 0) 8 Tryz.underlying35 S5.info3 rfl .i64 .i64 l.length (by omega) (by omega) W
  obtain ⟨i0,hi,hz0,hz1,hz2⟩:=info_parts S5.info3
  have HI0:Hid (Tryz.prog.info? 3=some i0∧i0.zero=some (.int .i64 0)∧i0.size=1∧i0.bytes=8):=⟨hi,hz0,hz1,hz2⟩
  obtain ⟨W1,hW1⟩:∃ W1,W1=w.alloc (.cells (madeCells #[.int .i64 0] l.length) 3):=⟨_,rfl⟩
  have HB1:Hid (Below w.heap.size w W1):=by show Below _ _ _; rw [hW1]; exact (Below.refl _ _).alloc (Nat.le_refl _) _
  have HO1:Hid (W1.ownsRow w.heap.size 3 1 (.slice (some ⟨w.heap.size,0,none⟩) 0 l.length) 0 (S5.icells [])):=by
    show World.ownsRow _ _ _ _ _ _ _
    rw [hW1]
    exact World.ownsRow_made w _ l.length (Nat.le_refl _) (by unfold maxLen; omega) (by simp [size_madeCells])
  clear hi hz0 hz1 hz2
  go_enter Tryz.func499,Tryz.ntmps499
  go_wp2
  rw [← hW1]
  clear hW1 hmk
  go_loopw [0,5,18] (fun ca cv cc wr=>∃ j:Nat,j ≤ l.length∧ca=.slice (some ⟨g,0,none⟩) 0 c∧cc=.int .i64 (j:Int)∧wr.ownsRow w.heap.size 3 1 cv j (S5.icells (l.take j))∧Below w.heap.size w wr) (fun _ _ cc _=>l.length - (intOf cc).toNat)
  case atStart=>exact ⟨0,by omega,rfl,rfl,HO1.out,HB1.out⟩
  case round =>
    obtain ⟨j,hj,rfl,rfl,hown,hbel⟩:=hrel
    have HO:Hid (wr.ownsRow w.heap.size 3 1 u5 j (S5.icells (l.take j))):=hown
    have HB:Hid (Below w.heap.size w wr):=hbel
    have hbz:=HB.out.size
    clear hown hbel
    by_cases hlt:j < l.length
    · obtain ⟨gg,hq,hc⟩:=HoldsI.at (S5.HoldsI.keep HV.out HB.out) j hlt
      subst hq
      generalize hnn:l[j]=n at hc
      have HTK:Hid (S5.icells (l.take (j + 1))=S5.icells (l.take j) ++ [.int .i64 n]):=by
        show _=_
        rw [List.take_succ_eq_append_getElem hlt,S5.icells_snoc,hnn]
      have hx0:(0:Int) ≤ (j:Int):=by omega
      have hx1:(j:Int) < (l.length:Int):=by omega
      clear hnn
      go_wp2_with fail
      refine (show Calls _ _ _ _ _ from HBS.out _ _).mono ?_
      rintro e w2 ⟨rfl,rfl⟩
      go_upto_region 6 with fail
      obtain ⟨hi,hz0,hz1,hz2⟩:=HI0.out
      go_wp2_with (at_builtin; go_must (refine wpList_append_own _ rfl _ _ 35 rfl w.heap.size 3 i0 (.int .i64 0) 1 8 Tryz.underlying35 hi hz0 hz1 hz2 rfl (by decide) _ _ _ rfl HO.out ⟨g,0,none⟩ 0 c [] rfl rfl ?ac1 ?ac2 ?ac3 ?ac4 ?ac5 ?_))
      case ac1=>intro t u hj; simp at hj
      case ac2=>intro u hu; simp at hu
      case ac3=>unfold maxLen; omega
      case ac4=>omega
      case ac5=>exact hbz
      intro v1 w3 hown1 hgrow1 _
      have HO3:Hid (w3.ownsRow w.heap.size 3 1 v1 j (S5.icells (l.take j))):=by show World.ownsRow _ _ _ _ _ _ _; simpa using hown1
      have HB3:Hid (Below w.heap.size w w3):=HB.out.grown hgrow1 hbz (fun b hb=>(World.ownsRow.lt HO.out b hb).1)
      have hb3:=HB3.out.size
      clear hown1 hgrow1
      go_wp2_with (at_builtin; go_must (refine wpList_append_own _ rfl _ _ 35 rfl w.heap.size 3 i0 (.int .i64 0) 1 8 Tryz.underlying35 hi hz0 hz1 hz2 rfl (by decide) _ _ _ rfl (World.ownsRow.alloc HO3.out _) ⟨w3.heap.size,0,none⟩ 1 1 [.int .i64 n] rfl rfl ?bc1 ?bc2 ?bc3 ?bc4 ?bc5 ?_))
      case bc1 =>
        intro t u hj
        match t,hj with
        | 0,hj=>simp at hj; subst hj; exact S5.cell_newN _ 0 _ _
      case bc2=>intro u hu; simp at hu; subst hu; rfl
      case bc3=>unfold maxLen; omega
      case bc4=>omega
      case bc5=>simp; omega
      intro v2 w4 hown2 hgrow2 _
      have HO4:Hid (w4.ownsRow w.heap.size 3 1 v2 (j + 1) (S5.icells (l.take (j + 1)))):=by show World.ownsRow _ _ _ _ _ _ _; rw [HTK.out]; exact hown2
      have HB4:Hid (Below w.heap.size w w4):=(HB3.out.alloc hb3 _).grown hgrow2 (by simp; omega) (fun b hb=>(World.ownsRow.lt HO3.out b hb).1)
      clear hown2 hgrow2 hi hz0 hz1 hz2
      go_wp2
      go_roundw
      case rel=>exact ⟨j + 1,hlt,rfl,by simp,HO4.out,HB4.out⟩
      case measure=>simp [intOf]; omega
    · have hje:j=l.length:=by omega
      subst hje
      rw [List.take_length] at HO
      go_upto_region 9 with fail
      obtain ⟨hi,hz0,hz1,hz2⟩:=HI0.out
      go_wp2_with (at_builtin; go_must (refine wpList_append_own _ rfl _ _ 35 rfl w.heap.size 3 i0 (.int .i64 0) 1 8 Tryz.underlying35 hi hz0 hz1 hz2 rfl (by decide) _ _ _ rfl HO.out ⟨g,0,none⟩ 0 c [] rfl rfl ?dc1 ?dc2 ?dc3 ?dc4 ?dc5 ?_))
      case dc1=>intro t u hj; simp at hj
      case dc2=>intro u hu; simp at hu
      case dc3=>unfold maxLen; omega
      case dc4=>omega
      case dc5=>exact hbz
      intro v1 w3 hown1 hgrow1 _
      have HO3:Hid (w3.ownsRow w.heap.size 3 1 v1 l.length (S5.icells l)):=by show World.ownsRow _ _ _ _ _ _ _; simpa using hown1
      have HB3:Hid (Below w.heap.size w w3):=HB.out.grown hgrow1 hbz (fun b hb=>(World.ownsRow.lt HO.out b hb).1)
      clear hown1 hgrow1 hi hz0 hz1 hz2
      go_wp2
      go_ret
      exact ⟨_,rfl,S5.HoldsI.own HO3.out,HB3.out⟩
end Go.Proofs.YtiefeeoellagnaaGreatDoor.V
