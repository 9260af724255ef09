import Derived.Test.YtiefeeoellagnaaGreatDoorFA
import Derived.Deep.LoopGhost
import Derived.Test.YtiefeeoellagnaaGreatDoorFC
namespace Go.Proofs.YtiefeeoellagnaaGreatDoor.S5
open Go.RowKit IM
set_option linter.unusedVariables false
set_option maxHeartbeats 400000 in
set_option maxRecDepth 100000 in
theorem at_2 (p:ByteArray) (C i:Nat) (hi:8 + (i + 1) * 2 ≤ p.size) (hp:p.size ≤ 4294967296) (w:World) :
    Calls Tryz.prog 380 #[.agg #[.string p,.int .i64 2,.int .i64 (C:Int)],.int .i64 i] w fun e w'=>e=.returned (.int .i64 (numAt 2 p.data.toList i))∧Below w.heap.size w w':=by
  have hsp:=word_split p.data.toList 2 i (by omega) (by rw [list_len]; exact hi)
  have hb1:=leN_lt ((p.data.toList.drop ((i + 1) * 2)).take (8 - 2))
  have hb2:=leN_lt ((p.data.toList.drop (8 + i * 2)).take 2)
  have l1:((p.data.toList.drop ((i + 1) * 2)).take (8 - 2)).length=6:=by rw [List.length_take,List.length_drop,list_len]; omega
  have l2:((p.data.toList.drop (8 + i * 2)).take 2).length=2:=by rw [List.length_take,List.length_drop,list_len]; omega
  rw [l1] at hb1; rw [l2] at hb2
  generalize h1:leN ((p.data.toList.drop ((i + 1) * 2)).take (8 - 2))=L at *
  generalize h2:leN ((p.data.toList.drop (8 + i * 2)).take 2)=U at *
  have e6:(256:Nat) ^ 6=281474976710656:=by decide
  have e62:(256:Nat) ^ (8 - 2)=281474976710656:=by decide
  have e2:(256:Nat) ^ 2=65536:=by decide
  rw [e6] at hb1; rw [e2] at hb2; rw [e62] at hsp
  have hnum:numAt 2 p.data.toList i=if 2 * U < 65536 then (U:Int) else (U:Int) - 65536:=by unfold numAt sg; rw [h2,e2]; rfl
  have HN:Hid _:=hnum
  have hrw:=fun W=>readWord_any p ((i + 1) * 2) (by omega) W (by omega)
  rw [show (((i + 1) * 2:Nat):Int)=((i:Int) + 1) * 2 by omega] at hrw
  generalize hX:leN ((p.data.toList.drop ((i + 1) * 2)).take 8)=X at hrw hsp
  have HX:Hid _:=hX
  have HR:Hid _:=hrw
  clear hX h1 h2 hnum l1 l2 e6 e62 e2 hrw
  have hbg:=fun W=>begin_2 p C (i + 1) (by omega) W
  rw [show ((i + 1:Nat):Int)=(i:Int) + 1 by omega] at hbg
  have HBG:Hid _:=hbg
  clear hbg
  have hq:Ending.returned (.int .i64 (wrap64 (X:Int) / 281474976710656))=Ending.returned (.int .i64 (numAt 2 p.data.toList i)):=by
    rw [HN.out]
    refine ret_int ?_
    unfold wrap64
    split <;> omega
  have HQ:Hid _:=hq
  clear hq
  have hi2:i ≤ 4294967296:=by omega
  have hw1:IntKind.i64.wrap ((i:Int) + 1)=(i:Int) + 1:=by rw [IntKind.wrap_i64]; omega
  have hw2:IntKind.i64.wrap (8 + ((i:Int) + 1) * 2 - 8)=((i:Int) + 1) * 2:=by rw [IntKind.wrap_i64]; omega
  have HW1:Hid _:=hw1
  have HW2:Hid _:=hw2
  clear hsp hb1 hb2 hi hp hw1 hw2
  go_enter Tryz.func380,Tryz.ntmps380
  go_wp2
  go_region_with (first
    | (go_at_call 402; rw [HW1.out]; refine (HBG.out _).mono ?_; rintro e w' ⟨rfl,rfl⟩)
    | (go_at_call 401; rw [HW2.out]; refine (HR.out _).mono ?_; rintro e w' ⟨rfl,hb⟩))
  all_goals have kc:w'.cell? ⟨w.heap.size,1,none⟩=some (.int .i64 2):=by rw [cell_below hb (by simp; omega)]; simp [go_sem]
  all_goals have HBB:Hid (Below w.heap.size w w'):=((((Below.refl _ w).alloc (Nat.le_refl _) _).alloc (by simp) _).drew).trans (hb.mono (by simp; omega))
  all_goals clear hb
  all_goals go_wp2
  all_goals go_ret
  all_goals exact ⟨HQ.out,HBB.out⟩
end Go.Proofs.YtiefeeoellagnaaGreatDoor.S5
namespace Go.Proofs.YtiefeeoellagnaaGreatDoor.S5
open Go.RowKit IM
set_option linter.unusedVariables false
set_option maxHeartbeats 400000 in
set_option maxRecDepth 100000 in
theorem at_4 (p:ByteArray) (C i:Nat) (hi:8 + (i + 1) * 4 ≤ p.size) (hp:p.size ≤ 4294967296) (w:World) :
    Calls Tryz.prog 380 #[.agg #[.string p,.int .i64 4,.int .i64 (C:Int)],.int .i64 i] w fun e w'=>e=.returned (.int .i64 (numAt 4 p.data.toList i))∧Below w.heap.size w w':=by
  have hsp:=word_split p.data.toList 4 i (by omega) (by rw [list_len]; exact hi)
  have hb1:=leN_lt ((p.data.toList.drop ((i + 1) * 4)).take (8 - 4))
  have hb2:=leN_lt ((p.data.toList.drop (8 + i * 4)).take 4)
  have l1:((p.data.toList.drop ((i + 1) * 4)).take (8 - 4)).length=4:=by rw [List.length_take,List.length_drop,list_len]; omega
  have l2:((p.data.toList.drop (8 + i * 4)).take 4).length=4:=by rw [List.length_take,List.length_drop,list_len]; omega
  rw [l1] at hb1; rw [l2] at hb2
  generalize h1:leN ((p.data.toList.drop ((i + 1) * 4)).take (8 - 4))=L at *
  generalize h2:leN ((p.data.toList.drop (8 + i * 4)).take 4)=U at *
  have e6:(256:Nat) ^ 4=4294967296:=by decide
  have e62:(256:Nat) ^ (8 - 4)=4294967296:=by decide
  have e2:(256:Nat) ^ 4=4294967296:=by decide
  rw [e6] at hb1; rw [e2] at hb2; rw [e62] at hsp
  have hnum:numAt 4 p.data.toList i=if 2 * U < 4294967296 then (U:Int) else (U:Int) - 4294967296:=by unfold numAt sg; rw [h2,e2]; rfl
  have HN:Hid _:=hnum
  have hrw:=fun W=>readWord_any p ((i + 1) * 4) (by omega) W (by omega)
  rw [show (((i + 1) * 4:Nat):Int)=((i:Int) + 1) * 4 by omega] at hrw
  generalize hX:leN ((p.data.toList.drop ((i + 1) * 4)).take 8)=X at hrw hsp
  have HX:Hid _:=hX
  have HR:Hid _:=hrw
  clear hX h1 h2 hnum l1 l2 e6 e62 e2 hrw
  have hbg:=fun W=>begin_4 p C (i + 1) (by omega) W
  rw [show ((i + 1:Nat):Int)=(i:Int) + 1 by omega] at hbg
  have HBG:Hid _:=hbg
  clear hbg
  have hq:Ending.returned (.int .i64 (wrap64 (X:Int) / 4294967296))=Ending.returned (.int .i64 (numAt 4 p.data.toList i)):=by
    rw [HN.out]
    refine ret_int ?_
    unfold wrap64
    split <;> omega
  have HQ:Hid _:=hq
  clear hq
  have hi2:i ≤ 4294967296:=by omega
  have hw1:IntKind.i64.wrap ((i:Int) + 1)=(i:Int) + 1:=by rw [IntKind.wrap_i64]; omega
  have hw2:IntKind.i64.wrap (8 + ((i:Int) + 1) * 4 - 8)=((i:Int) + 1) * 4:=by rw [IntKind.wrap_i64]; omega
  have HW1:Hid _:=hw1
  have HW2:Hid _:=hw2
  clear hsp hb1 hb2 hi hp hw1 hw2
  go_enter Tryz.func380,Tryz.ntmps380
  go_wp2
  go_region_with (first
    | (go_at_call 402; rw [HW1.out]; refine (HBG.out _).mono ?_; rintro e w' ⟨rfl,rfl⟩)
    | (go_at_call 401; rw [HW2.out]; refine (HR.out _).mono ?_; rintro e w' ⟨rfl,hb⟩))
  all_goals have kc:w'.cell? ⟨w.heap.size,1,none⟩=some (.int .i64 4):=by rw [cell_below hb (by simp; omega)]; simp [go_sem]
  all_goals have HBB:Hid (Below w.heap.size w w'):=((((Below.refl _ w).alloc (Nat.le_refl _) _).alloc (by simp) _).drew).trans (hb.mono (by simp; omega))
  all_goals clear hb
  all_goals go_wp2
  all_goals go_ret
  all_goals exact ⟨HQ.out,HBB.out⟩
end Go.Proofs.YtiefeeoellagnaaGreatDoor.S5
namespace Go.Proofs.YtiefeeoellagnaaGreatDoor.S5
open Go.RowKit IM
set_option linter.unusedVariables false
set_option maxHeartbeats 400000 in
set_option maxRecDepth 100000 in
theorem at_8 (p:ByteArray) (C i:Nat) (hi:8 + (i + 1) * 8 ≤ p.size) (hp:p.size ≤ 4294967296) (w:World) :
    Calls Tryz.prog 380 #[.agg #[.string p,.int .i64 8,.int .i64 (C:Int)],.int .i64 i] w fun e w'=>e=.returned (.int .i64 (numAt 8 p.data.toList i))∧Below w.heap.size w w':=by
  have hsp:=word_split p.data.toList 8 i (by omega) (by rw [list_len]; exact hi)
  have hb1:=leN_lt ((p.data.toList.drop ((i + 1) * 8)).take (8 - 8))
  have hb2:=leN_lt ((p.data.toList.drop (8 + i * 8)).take 8)
  have l1:((p.data.toList.drop ((i + 1) * 8)).take (8 - 8)).length=0:=by rw [List.length_take,List.length_drop,list_len]; omega
  have l2:((p.data.toList.drop (8 + i * 8)).take 8).length=8:=by rw [List.length_take,List.length_drop,list_len]; omega
  rw [l1] at hb1; rw [l2] at hb2
  generalize h1:leN ((p.data.toList.drop ((i + 1) * 8)).take (8 - 8))=L at *
  generalize h2:leN ((p.data.toList.drop (8 + i * 8)).take 8)=U at *
  have e6:(256:Nat) ^ 0=1:=by decide
  have e62:(256:Nat) ^ (8 - 8)=1:=by decide
  have e2:(256:Nat) ^ 8=18446744073709551616:=by decide
  rw [e6] at hb1; rw [e2] at hb2; rw [e62] at hsp
  have hnum:numAt 8 p.data.toList i=if 2 * U < 18446744073709551616 then (U:Int) else (U:Int) - 18446744073709551616:=by unfold numAt sg; rw [h2,e2]; rfl
  have HN:Hid _:=hnum
  have hrw:=fun W=>readWord_any p ((i + 1) * 8) (by omega) W (by omega)
  rw [show (((i + 1) * 8:Nat):Int)=((i:Int) + 1) * 8 by omega] at hrw
  generalize hX:leN ((p.data.toList.drop ((i + 1) * 8)).take 8)=X at hrw hsp
  have HX:Hid _:=hX
  have HR:Hid _:=hrw
  clear hX h1 h2 hnum l1 l2 e6 e62 e2 hrw
  have hbg:=fun W=>begin_8 p C (i + 1) (by omega) W
  rw [show ((i + 1:Nat):Int)=(i:Int) + 1 by omega] at hbg
  have HBG:Hid _:=hbg
  clear hbg
  have hq:Ending.returned (.int .i64 (wrap64 (X:Int)))=Ending.returned (.int .i64 (numAt 8 p.data.toList i)):=by
    rw [HN.out]
    refine ret_int ?_
    unfold wrap64
    split <;> omega
  have HQ:Hid _:=hq
  clear hq
  have hi2:i ≤ 4294967296:=by omega
  have hw1:IntKind.i64.wrap ((i:Int) + 1)=(i:Int) + 1:=by rw [IntKind.wrap_i64]; omega
  have hw2:IntKind.i64.wrap (8 + ((i:Int) + 1) * 8 - 8)=((i:Int) + 1) * 8:=by rw [IntKind.wrap_i64]; omega
  have HW1:Hid _:=hw1
  have HW2:Hid _:=hw2
  clear hsp hb1 hb2 hi hp hw1 hw2
  go_enter Tryz.func380,Tryz.ntmps380
  go_wp2
  go_region_with (first
    | (go_at_call 402; rw [HW1.out]; refine (HBG.out _).mono ?_; rintro e w' ⟨rfl,rfl⟩)
    | (go_at_call 401; rw [HW2.out]; refine (HR.out _).mono ?_; rintro e w' ⟨rfl,hb⟩))
  all_goals have kc:w'.cell? ⟨w.heap.size,1,none⟩=some (.int .i64 8):=by rw [cell_below hb (by simp; omega)]; simp [go_sem]
  all_goals have HBB:Hid (Below w.heap.size w w'):=((((Below.refl _ w).alloc (Nat.le_refl _) _).alloc (by simp) _).drew).trans (hb.mono (by simp; omega))
  all_goals clear hb
  all_goals go_wp2
  all_goals go_ret
  all_goals exact ⟨HQ.out,HBB.out⟩
end Go.Proofs.YtiefeeoellagnaaGreatDoor.S5
namespace Go.Proofs.YtiefeeoellagnaaGreatDoor.S5
open Go.RowKit IM
set_option linter.unusedVariables false
theorem at_any (p:ByteArray) (W C i:Nat) (h3:W3 W) (hi:8 + (i + 1) * W ≤ p.size) (hp:p.size ≤ 4294967296) (w:World) :
    Calls Tryz.prog 380 #[setV p W C,.int .i64 i] w fun e w'=>e=.returned (.int .i64 (numAt W p.data.toList i))∧Below w.heap.size w w':=by
  rcases h3 with rfl | rfl | rfl
  · exact at_2 p C i hi hp w
  · exact at_4 p C i hi hp w
  · exact at_8 p C i hi hp w
theorem begin_any (p:ByteArray) (W C i:Nat) (h3:W3 W) (hi:i ≤ 4294967296) (w:World) :
    Calls Tryz.prog 402 #[setV p W C,.int .i64 i] w fun e w'=>e=.returned (.int .i64 ((8 + i * W:Nat):Int))∧w'=w.alloc (.cells #[.string p,.int .i64 (W:Int),.int .i64 (C:Int)] 507):=by
  rcases h3 with rfl | rfl | rfl
  · refine (begin_2 p C i hi w).mono ?_
    rintro e w' ⟨rfl,rfl⟩
    exact ⟨ret_int (by omega),rfl⟩
  · refine (begin_4 p C i hi w).mono ?_
    rintro e w' ⟨rfl,rfl⟩
    exact ⟨ret_int (by omega),rfl⟩
  · refine (begin_8 p C i hi w).mono ?_
    rintro e w' ⟨rfl,rfl⟩
    exact ⟨ret_int (by omega),rfl⟩
theorem begin_bel (p:ByteArray) (W C i:Nat) (h3:W3 W) (hi:i ≤ 4294967296) (w:World) :
    Calls Tryz.prog 402 #[setV p W C,.int .i64 i] w fun e w'=>e=.returned (.int .i64 ((8 + i * W:Nat):Int))∧Below w.heap.size w w':=by
  refine (begin_any p W C i h3 hi w).mono ?_
  rintro e w' ⟨rfl,rfl⟩
  exact ⟨rfl,(Below.refl _ w).alloc (Nat.le_refl _) _⟩
theorem place_le {W C i n:Nat} (hi:i < C) (hn:n=8 + C * W):8 + (i + 1) * W ≤ n:=by
  have:(i + 1) * W ≤ C * W:=Nat.mul_le_mul_right _ hi
  omega
def risesB (W C:Nat) (l:List UInt8):Bool:=decide (∀ i,i < C - 1 → numAt W l i < numAt W l (i + 1))
set_option maxHeartbeats 1000000 in
set_option maxRecDepth 100000 in
theorem rises_any (p:ByteArray) (W C:Nat) (h3:W3 W) (hc:C ≤ 1048576) (hs:p.size=8 + C * W) (w:World) :
    Calls Tryz.prog 403 #[setV p W C] w fun e w'=>e=.returned (.bool (risesB W C p.data.toList))∧Below w.heap.size w w':=by
  have hp:p.size ≤ 4294967296:=by
    have:C * W ≤ 1048576 * 8:=Nat.mul_le_mul hc (by rcases h3 with rfl | rfl | rfl <;> omega)
    omega
  have HA:Hid (∀ i,i < C → ∀ W',Calls Tryz.prog 380 #[setV p W C,.int .i64 i] W' fun e w'=>e=.returned (.int .i64 (numAt W p.data.toList i))∧Below W'.heap.size W' w'):=fun i hi W'=>at_any p W C i h3 (place_le hi hs) hp W'
  have HF:Hid (∀ i,numAt W p.data.toList i=numAt W p.data.toList i):=fun i=>rfl
  clear hs h3 hp
  generalize hN:numAt W p.data.toList=N at *
  have HR:Hid (risesB W C p.data.toList=decide (∀ i,i < C - 1 → N i < N (i + 1))):=by unfold risesB; rw [hN]; exact rfl
  unfold setV at *
  rcases Nat.eq_zero_or_pos C with rfl | hpos
  · have HT:Hid (risesB W 0 p.data.toList=true):=by rw [HR.out]; exact decide_eq_true (by intro i hi; omega)
    go_enter Tryz.func403,Tryz.ntmps403
    go_wp2
    go_ret
    exact ⟨by rw [HT.out]; rfl,(Below.refl _ w).alloc (Nat.le_refl _) _⟩
  · go_enter Tryz.func403,Tryz.ntmps403
    go_wp2_with fail
    refine (HA.out 0 hpos _).mono ?_
    rintro e w1 ⟨rfl,hb1⟩
    have k0:w1.cell? ⟨w.heap.size,0,none⟩=some (.string p):=by rw [cell_below hb1 (by simp)]; simp [go_sem]
    have k1:w1.cell? ⟨w.heap.size,1,none⟩=some (.int .i64 (W:Int)):=by rw [cell_below hb1 (by simp)]; simp [go_sem]
    have k2:w1.cell? ⟨w.heap.size,2,none⟩=some (.int .i64 (C:Int)):=by rw [cell_below hb1 (by simp)]; simp [go_sem]
    have hz:w.heap.size + 1 ≤ w1.heap.size:=by have:=hb1.size; simpa using this
    have HB:Hid (Below w.heap.size w w1):=((Below.refl _ w).alloc (Nat.le_refl _) _).trans (hb1.mono (by simp))
    clear hb1
    have HK0:Hid _:=k0
    have HK1:Hid _:=k1
    have HK2:Hid _:=k2
    clear k0 k1 k2
    go_wp2
    go_loopw [3,4,5] (fun la i n wr=>∃ k:Nat,1 ≤ k∧k ≤ C∧i=.int .i64 k∧la=.int .i64 (N (k - 1))∧(∀ j,j < k - 1 → N j < N (j + 1))∧Below (w.heap.size + 1) w1 wr) (fun _ i _ _=>C - (intOf i).toNat)
    case atStart=>exact ⟨1,by omega,by omega,rfl,rfl,by intro j hj; omega,Below.refl _ _⟩
    case round =>
      obtain ⟨k,hk1,hk2,rfl,rfl,hup,hbel⟩:=hrel
      have HU:Hid (∀ j,j < k - 1 → N j < N (j + 1)):=hup
      have HBW:Hid (Below (w.heap.size + 1) w1 wr):=hbel
      have k0:wr.cell? ⟨w.heap.size,0,none⟩=some (.string p):=by rw [cell_below hbel (by simp)]; exact HK0.out
      have k1:wr.cell? ⟨w.heap.size,1,none⟩=some (.int .i64 (W:Int)):=by rw [cell_below hbel (by simp)]; exact HK1.out
      have k2:wr.cell? ⟨w.heap.size,2,none⟩=some (.int .i64 (C:Int)):=by rw [cell_below hbel (by simp)]; exact HK2.out
      have hz2:w.heap.size + 1 ≤ wr.heap.size:=by have:=hbel.size; omega
      clear hup hbel
      by_cases hlt:k < C
      · go_wp2_with fail
        refine (HA.out k hlt _).mono ?_
        rintro e w2 ⟨rfl,hb2⟩
        have HB2:Hid (Below (w.heap.size + 1) w1 w2):=HBW.out.trans (hb2.mono hz2)
        clear hb2 k0 k1 k2
        by_cases hc:N k ≤ N (k - 1)
        · have HF2:Hid (risesB W C p.data.toList=false):=by
            rw [HR.out]
            exact decide_eq_false (fun h=>by have:=h (k - 1) (by omega); rw [show k - 1 + 1=k by omega] at this; omega)
          go_wp2
          go_ret
          exact ⟨by rw [HF2.out]; rfl,HB.out.trans (HB2.out.mono (by omega))⟩
        · have hc2:N (k - 1) < N k:=by omega
          go_wp2
          go_roundw
          case rel =>
            refine ⟨k + 1,by omega,by omega,by go_num,by rw [show k + 1 - 1=k by omega],?_,HB2.out⟩
            intro j hj
            rcases Nat.lt_or_ge j (k - 1) with h | h
            · exact HU.out j h
            · have:j=k - 1:=by omega
              subst this
              rw [show k - 1 + 1=k by omega]; exact hc2
          case measure=>simp [intOf]; omega
      · have hke:k=C:=by omega
        have HT:Hid (risesB W C p.data.toList=true):=by
          rw [HR.out]
          exact decide_eq_true (fun i hi=>HU.out i (by omega))
        subst hke
        go_wp2
        go_ret
        exact ⟨by rw [HT.out]; rfl,HB.out.trans (HBW.out.mono (by omega))⟩
end Go.Proofs.YtiefeeoellagnaaGreatDoor.S5
namespace Go.Proofs.YtiefeeoellagnaaGreatDoor.S5
open Go.RowKit IM
set_option linter.unusedVariables false
theorem heap_last (w:World) (o:Obj):(w.alloc o).heap[w.heap.size]?=some o:=heap_alloc_new w o
theorem cells_sss0 {b:Nat} {w1:World} {a0 a1 a2:Value} {T:TypeId} (hrow:w1.heap[b]?=some (.cells #[a0,a1,a2] T (0,0))) (v0 v1 v2:Value) :
    (((w1.setCell ⟨b,0,none⟩ v0).setCell ⟨b,1,none⟩ v1).setCell ⟨b,2,none⟩ v2).cell? ⟨b,0,none⟩=some v0∧(((w1.setCell ⟨b,0,none⟩ v0).setCell ⟨b,1,none⟩ v1).setCell ⟨b,2,none⟩ v2).cell? ⟨b,1,none⟩=some v1∧(((w1.setCell ⟨b,0,none⟩ v0).setCell ⟨b,1,none⟩ v1).setCell ⟨b,2,none⟩ v2).cell? ⟨b,2,none⟩=some v2:=by
  have h1:(((w1.setCell ⟨b,0,none⟩ v0).setCell ⟨b,1,none⟩ v1).setCell ⟨b,2,none⟩ v2).heap[b]?=some (.cells #[v0,v1,v2] T (0,0)):=by simp [World.setCell,Array.getElem?_modify,hrow]
  refine ⟨?_,?_,?_⟩ <;> (rw [cell_heap h1]; rfl)
theorem bel_sss0 {B b:Nat} {w w1:World} (h:Below B w w1) (hb:B ≤ b) (v0 v1 v2:Value):Below B w (((w1.setCell ⟨b,0,none⟩ v0).setCell ⟨b,1,none⟩ v1).setCell ⟨b,2,none⟩ v2):=
  ((h.setCell (p:=⟨b,0,none⟩) hb _).setCell (p:=⟨b,1,none⟩) hb _).setCell (p:=⟨b,2,none⟩) hb _
theorem head_split (p:ByteArray) (h:8 ≤ p.size):leN ((p.data.toList.drop 0).take 8)=wid p.data.toList + 4294967296 * cnt p.data.toList∧wid p.data.toList < 4294967296∧cnt p.data.toList < 4294967296:=by
  have e4:(256:Nat) ^ 4=4294967296:=by decide
  have l1:(p.data.toList.take 4).length=4:=by rw [List.length_take,list_len]; omega
  have l2:((p.data.toList.drop 4).take 4).length=4:=by rw [List.length_take,List.length_drop,list_len]; omega
  have h1:=leN_lt (p.data.toList.take 4); have h2:=leN_lt ((p.data.toList.drop 4).take 4)
  rw [l1,e4] at h1; rw [l2,e4] at h2
  refine ⟨?_,h1,h2⟩
  rw [List.drop_zero,show 8=4 + 4 from rfl,List.take_add,leN_app,l1,e4]
  rfl
theorem and_32 (a b:Nat) (ha:a < 4294967296) (hb:b < 4294967296):bits .and .u64 ((a + 4294967296 * b:Nat):Int) 4294967295=(a:Int):=by
  have e:(4294967295:Int)=((4294967295:Nat):Int):=rfl
  rw [e,bits_and_u64_nat _ _ (by omega) (by omega)]
  have h:=Nat.and_two_pow_sub_one_eq_mod (a + 4294967296 * b) 32
  rw [show (2:Nat) ^ 32 - 1=4294967295 from rfl,show (2:Nat) ^ 32=4294967296 from rfl] at h
  rw [h]
  omega
end Go.Proofs.YtiefeeoellagnaaGreatDoor.S5
namespace Go.Proofs.YtiefeeoellagnaaGreatDoor.S5
open Go.RowKit IM
set_option linter.unusedVariables false
set_option maxHeartbeats 1000000 in
set_option maxRecDepth 1000000 in
theorem search_any (g:Nat) (cb:Array Value) (n:Nat) (p:Nat → Bool) (w:World) (eg:∀ args w,(callFunc g args).run Tryz.prog w=.ok (.enter g args) w) (hsz:n < 4611686018427387904)
    (hf:∀ (W:World) (i:Nat),i < n → Below w.heap.size w W → Calls Tryz.prog g (#[.int .i64 i] ++ cb) W fun e w'=>e=.returned (.bool (p i))∧Below W.heap.size W w')
    (hmono:∀ a b,a ≤ b → b < n → p a=true → p b=true) :
    Calls Tryz.prog 527 #[.int .i64 n,.func (.func g) #[] cb] w fun e w'=>∃ r:Nat,e=.returned (.int .i64 r)∧r ≤ n∧(∀ t,t < r → p t=false)∧(∀ t,r ≤ t → t < n → p t=true)∧Below w.heap.size w w':=by
  have HF:Hid _:=hf
  have M:Hid _:=hmono
  clear hf hmono
  go_enter Tryz.func527,Tryz.ntmps527
  go_wp2
  go_loopg [5,6] n (fun kx s5 s6 wr=>∃ (lo hi:Nat),s5=.int .i64 lo∧s6=.int .i64 hi∧lo ≤ hi∧hi ≤ n∧hi - lo ≤ kx∧Below w.heap.size w wr ∧
    Hid ((∀ t,t < lo → p t=false)∧(∀ t,hi ≤ t → t < n → p t=true)))
  case atStart=>exact ⟨0,n,rfl,rfl,Nat.zero_le _,Nat.le_refl _,by omega,Below.refl _ _,(⟨fun t ht=>absurd ht (Nat.not_lt_zero _),fun t h1 h2=>by omega⟩:(∀ t,t < 0 → p t=false)∧(∀ t,n ≤ t → t < n → p t=true))⟩
  case round =>
    obtain ⟨lo,hi,rfl,rfl,hlh,hin,hg,hbel,I⟩:=hrel
    have HB:Hid (Below w.heap.size w wr):=hbel
    by_cases hlt:lo < hi
    · have hc:=HF.out wr ((lo + hi) / 2) (by omega) hbel
      clear hbel
      rw [show (((lo + hi) / 2:Nat):Int)=((lo:Int) + (hi:Int)) / 2 by omega] at hc
      cases hp:p ((lo + hi) / 2) <;> rw [hp] at hc
      · have HP:Hid (p ((lo + hi) / 2)=false):=hp
        clear hp
        go_wp2_with fail
        refine hc.mono ?_
        rintro e w' ⟨rfl,hb2⟩
        go_wp2
        have HB2:Hid (Below w.heap.size w w'):=HB.out.trans (hb2.mono HB.out.size)
        go_roundg (hi - ((lo + hi) / 2 + 1))
        case measure=>omega
        case rel =>
          have I2:Hid ((∀ t,t < (lo + hi) / 2 + 1 → p t=false)∧(∀ t,hi ≤ t → t < n → p t=true)):=⟨fun t ht=>(by
            cases h:p t with
            | false=>rfl
            | true=>have:=M.out t ((lo + hi) / 2) (by omega) (by omega) h; rw [HP.out] at this; cases this),I.out.2⟩
          exact ⟨(lo + hi) / 2 + 1,hi,by rw [show ((lo:Int) + (hi:Int)) / 2 + 1=(((lo + hi) / 2 + 1:Nat):Int) by omega],rfl,by omega,hin,Nat.le_refl _,HB2.out,I2⟩
      · have HP:Hid (p ((lo + hi) / 2)=true):=hp
        clear hp
        go_wp2_with fail
        refine hc.mono ?_
        rintro e w' ⟨rfl,hb2⟩
        go_wp2
        have HB2:Hid (Below w.heap.size w w'):=HB.out.trans (hb2.mono HB.out.size)
        go_roundg ((lo + hi) / 2 - lo)
        case measure=>omega
        case rel =>
          have I2:Hid ((∀ t,t < lo → p t=false)∧(∀ t,(lo + hi) / 2 ≤ t → t < n → p t=true)):=⟨I.out.1,fun t ht htn=>M.out ((lo + hi) / 2) t ht htn HP.out⟩
          exact ⟨lo,(lo + hi) / 2,rfl,by rw [show ((lo:Int) + (hi:Int)) / 2=(((lo + hi) / 2:Nat):Int) by omega],by omega,by omega,Nat.le_refl _,HB2.out,I2⟩
    · obtain rfl:hi=lo:=by omega
      clear hbel
      go_wp2
      go_ret
      exact ⟨hi,rfl,hin,I.out.1,I.out.2,HB.out⟩
set_option maxHeartbeats 400000 in
set_option maxRecDepth 100000 in
theorem geq_any (b:Nat) (m n:Int) (w:World) (hc:w.cell? ⟨b,0,none⟩=some (.int .i64 n)) :
    Calls Tryz.prog 518 (#[.int .i64 m] ++ #[.pointer (some ⟨b,0,none⟩)]) w fun e w'=>e=.returned (.bool (decide (n ≤ m)))∧Below w.heap.size w w':=by
  show Calls _ _ #[.int .i64 m,.pointer (some ⟨b,0,none⟩)] _ _
  go_enter Tryz.func518,Tryz.ntmps518
  go_wp2
  go_ret
  exact ⟨rfl,Below.refl _ _⟩
set_option maxHeartbeats 400000 in
set_option maxRecDepth 100000 in
theorem closure_any (bf bs g:Nat) (cb2:Array Value) (p:ByteArray) (W C i:Nat) (m:Int) (f:Bool) (w:World) (eg:∀ args w,(callFunc g args).run Tryz.prog w=.ok (.enter g args) w)
    (hf:w.cell? ⟨bf,0,none⟩=some (.func (.func g) #[] cb2)) (h0:w.cell? ⟨bs,0,none⟩=some (.string p)) (h1:w.cell? ⟨bs,1,none⟩=some (.int .i64 (W:Int))) (h2:w.cell? ⟨bs,2,none⟩=some (.int .i64 (C:Int)))
    (hat:∀ W',Calls Tryz.prog 380 #[setV p W C,.int .i64 i] W' fun e w'=>e=.returned (.int .i64 m)∧Below W'.heap.size W' w')
    (hg:∀ W',Below w.heap.size w W' → Calls Tryz.prog g (#[.int .i64 m] ++ cb2) W' fun e w'=>e=.returned (.bool f)∧Below W'.heap.size W' w') :
    Calls Tryz.prog 528 (#[.int .i64 i] ++ #[.pointer (some ⟨bf,0,none⟩),.pointer (some ⟨bs,0,none⟩)]) w fun e w'=>e=.returned (.bool f)∧Below w.heap.size w w':=by
  show Calls _ _ #[.int .i64 i,.pointer (some ⟨bf,0,none⟩),.pointer (some ⟨bs,0,none⟩)] _ _
  have HA:Hid _:=hat
  have HG:Hid _:=hg
  clear hat hg
  unfold setV at *
  go_enter Tryz.func528,Tryz.ntmps528
  go_wp2
  go_region_with (first
    | (go_at_call 380; refine (HA.out _).mono ?_; rintro e w' ⟨rfl,hb⟩; have kf:w'.cell? ⟨bf,0,none⟩=some (.func (.func g) #[] cb2):=(cell_below hb (World.block_lt_of_cell? _ _ hf)).trans hf; have hbw:Below w.heap.size w w':=(Below.drew (Below.refl _ w)).trans hb; clear hb)
    | (refine (HG.out _ hbw).mono ?_; rintro e w'' ⟨rfl,hb2⟩; have hbz:=hbw.trans (hb2.mono hbw.size)))
  all_goals go_wp2
  all_goals go_ret
  all_goals exact ⟨rfl,hbz⟩
end Go.Proofs.YtiefeeoellagnaaGreatDoor.S5
namespace Go.Proofs.YtiefeeoellagnaaGreatDoor.S5
open Go.RowKit IM
set_option linter.unusedVariables false
theorem enters_my {f:FuncId} {fn:Func} {c:Code} (hf:Tryz.prog.funcs[f]?=some fn) (hname:(fn.name == "runtime.NumGoroutine")=false) (hb:fn.body=some c):∀ args w,(callFunc f args).run Tryz.prog w=.ok (.enter f args) w:=by
  intro args w
  have h1:fn.name ≠ "runtime.NumGoroutine":=by simpa using hname
  simp [callFunc,hf,h1,hb,mark]
set_option maxHeartbeats 400000 in
set_option maxRecDepth 100000 in
theorem first_any (g:Nat) (cb2:Array Value) (p:ByteArray) (W C:Nat) (f:Int → Bool) (h3:W3 W) (hc:C ≤ 1048576) (hs:p.size=8 + C * W) (w:World) (eg:∀ args w,(callFunc g args).run Tryz.prog w=.ok (.enter g args) w)
    (hg:∀ (m:Int) W',Below w.heap.size w W' → Calls Tryz.prog g (#[.int .i64 m] ++ cb2) W' fun e w'=>e=.returned (.bool (f m))∧Below W'.heap.size W' w')
    (hm:∀ a b,a ≤ b → b < C → f (numAt W p.data.toList a)=true → f (numAt W p.data.toList b)=true) :
    Calls Tryz.prog 517 #[setV p W C,.func (.func g) #[] cb2] w fun e w'=>∃ r:Nat,e=.returned (.int .i64 r)∧r ≤ C∧(∀ t,t < r → f (numAt W p.data.toList t)=false)∧(∀ t,r ≤ t → t < C → f (numAt W p.data.toList t)=true)∧Below w.heap.size w w':=by
  have hp:p.size ≤ 4294967296:=by
    have:C * W ≤ 1048576 * 8:=Nat.mul_le_mul hc (by rcases h3 with rfl | rfl | rfl <;> omega)
    omega
  have HA:Hid (∀ i,i < C → ∀ W',Calls Tryz.prog 380 #[setV p W C,.int .i64 i] W' fun e w'=>e=.returned (.int .i64 (numAt W p.data.toList i))∧Below W'.heap.size W' w'):=fun i hi W'=>at_any p W C i h3 (place_le hi hs) hp W'
  have HG:Hid _:=hg
  have HM:Hid _:=hm
  clear hs h3 hp hg hm
  unfold setV at *
  obtain ⟨W0,hW0⟩:∃ W0,W0=(w.alloc (.cells #[.string p,.int .i64 (W:Int),.int .i64 (C:Int)] 507)).alloc (.cells #[.func (.func g) #[] cb2] 259):=⟨_,rfl⟩
  have hz:W0.heap.size=w.heap.size + 1 + 1:=by rw [hW0]; simp
  have c0:W0.cell? ⟨w.heap.size,0,none⟩=some (.string p):=by rw [hW0]; simp [go_sem]
  have c1:W0.cell? ⟨w.heap.size,1,none⟩=some (.int .i64 (W:Int)):=by rw [hW0]; simp [go_sem]
  have c2:W0.cell? ⟨w.heap.size,2,none⟩=some (.int .i64 (C:Int)):=by rw [hW0]; simp [go_sem]
  have cf:W0.cell? ⟨w.heap.size + 1,0,none⟩=some (.func (.func g) #[] cb2):=by rw [hW0]; simp [go_sem]
  have hB0:Below w.heap.size w W0:=by rw [hW0]; exact ((Below.refl _ w).alloc (Nat.le_refl _) _).alloc (by simp) _
  have K0:Hid (W0.cell? ⟨w.heap.size,0,none⟩=some (.string p)):=c0
  have K1:Hid (W0.cell? ⟨w.heap.size,1,none⟩=some (.int .i64 (W:Int))):=c1
  have K2:Hid (W0.cell? ⟨w.heap.size,2,none⟩=some (.int .i64 (C:Int))):=c2
  have KF:Hid (W0.cell? ⟨w.heap.size + 1,0,none⟩=some (.func (.func g) #[] cb2)):=cf
  have HB0:Hid (Below w.heap.size w W0):=hB0
  clear c0 c1 c2 cf hB0
  go_enter Tryz.func517,Tryz.ntmps517
  go_wp2_with fail
  rw [← hW0]
  have hS:=search_any 528 #[.pointer (some ⟨w.heap.size + 1,0,none⟩),.pointer (some ⟨w.heap.size,0,none⟩)] C (fun i=>f (numAt W p.data.toList i)) W0 (enters_my Tryz.func528 (by kernel_rfl) rfl) (by omega)
    (fun X i hi hX=>closure_any (w.heap.size + 1) w.heap.size g cb2 p W C i _ _ X eg ((cell_below hX (by rw [hz]; show w.heap.size + 1 < _; omega)).trans KF.out) ((cell_below hX (by rw [hz]; show w.heap.size < _; omega)).trans K0.out) ((cell_below hX (by rw [hz]; show w.heap.size < _; omega)).trans K1.out) ((cell_below hX (by rw [hz]; show w.heap.size < _; omega)).trans K2.out) (fun W'=>HA.out i hi W')
      (fun W' hW'=>HG.out _ W' ((HB0.out.trans (hX.mono (by omega))).trans (hW'.mono (by have:=hX.size; omega)))))
    HM.out
  refine hS.mono ?_
  rintro e w1 ⟨r,rfl,hr,h1,h2,hb⟩
  have HH:Hid ((∀ t,t < r → f (numAt W p.data.toList t)=false)∧(∀ t,r ≤ t → t < C → f (numAt W p.data.toList t)=true)):=⟨h1,h2⟩
  have HB:Hid (Below w.heap.size w w1):=HB0.out.trans (hb.mono (by omega))
  clear h1 h2 hb hS
  go_wp2
  go_ret
  exact ⟨r,rfl,hr,HH.out.1,HH.out.2,HB.out⟩
end Go.Proofs.YtiefeeoellagnaaGreatDoor.S5
