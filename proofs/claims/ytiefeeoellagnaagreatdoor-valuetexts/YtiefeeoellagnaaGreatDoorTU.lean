import Derived.Test.YtiefeeoellagnaaGreatDoorII
import Derived.Test.YtiefeeoellagnaaGreatDoorTT
import Derived.Test.YtiefeeoellagnaaGreatDoorAF
namespace Go.Proofs.YtiefeeoellagnaaGreatDoor.V
open Go.RowKit
set_option linter.unusedVariables false
set_option linter.unusedSimpArgs false
set_option maxHeartbeats 1000000 in
set_option maxRecDepth 20000 in
theorem rPush_ref (C:Array Value) (k:Int) (hk:k ≠ 2) (h0:C[0]?=some (.int .i64 k)) (h25:C.size=25) (h1:C.all (·.oneCell')=true) (b:Bool) (v:Value) (w:World):Calls Tryz.prog 31 #[.agg C,.bool b,v] w fun e w'=>e=.returned (.tuple #[.agg C,.int .i64 4])∧Below w.heap.size w w':=by
  obtain ⟨Z,hZ⟩:∃ Z,Z=zC:=⟨_,rfl⟩
  have HZZ:Hid (Z=zC):=hZ
  have HZS:Hid (Z.size=25):=by rw [hZ]; rfl
  clear hZ
  have h1c:Hid _:=h1
  obtain ⟨W1,hW1⟩:∃ W1,W1=(w.alloc (.cells C 42)).alloc (.cells Z 42):=⟨_,rfl⟩
  obtain ⟨r,hr⟩:∃ r,w.heap.size=r:=⟨_,rfl⟩
  have HRR:Hid (w.heap.size=r):=hr
  have HA:Hid (Below w.heap.size w W1∧W1.heap[r]?=some (.cells C 42)∧W1.heap[r + 1]?=some (.cells Z 42)):=by
    rw [hW1,← hr]
    exact two_rows (Below.refl _ _)
  have HRG:Hid (W1.rangeAt r 0 C.toList):=fun j v hv=>by rw [cellC HA.out.2.1]; simpa using hv
  clear hr h1
  have hkb:(k == 2)=false:=by rw [beq_eq_false_iff_ne]; exact hk
  go_enter Tryz.func31,Tryz.ntmps31
  go_upto_region 1 with (refine alR rfl rfl Z HZZ.out ?_)
  rw [← hW1,HRR.out]
  clear hW1
  have c0:W1.cell? ⟨r,0,none⟩=some (.int .i64 k):=(cellC HA.out.2.1).trans h0
  go_wp2_with (first | refine ldR C r _ (by rfl) rfl rfl HRG.out h25 ?_ | (refine stR rfl _ _ rfl (r + 1) C Z rfl rfl h25 h1c.out HZS.out HA.out.2.2 ?_; intro W4 hr4 hm4))
  have hlv:=run_loadVar_mid (P:=Tryz.prog) W4 (r + 1) 0 42 C.toList _ (fun j v hv=>by rw [cell_of_row _ _ _ _ _ _ hr4]; simpa using hv) Tryz.underlying42 rfl (by rw [Array.length_toList,h25]; exact i53)
  rw [Array.toArray_toList] at hlv
  refine bodyPost_ret (v:=.tuple #[.agg C,.int .i64 4]) (by simp [results,Tryz.results31,asAddr,hlv,Result.andThen]) rfl ⟨rfl,HA.out.1.trans (hm4.below (by rw [HRR.out]; omega) HA.out.1.size)⟩
set_option maxHeartbeats 1000000 in
set_option maxRecDepth 20000 in
theorem rPop_ref (C:Array Value) (k:Int) (hk:k ≠ 2) (h0:C[0]?=some (.int .i64 k)) (h25:C.size=25) (h1:C.all (·.oneCell')=true) (b:Bool) (n:Int) (w:World):Calls Tryz.prog 33 #[.agg C,.bool b,.int .i64 n] w fun e w'=>e=.returned (.tuple #[.agg C,.slice none 0 0,.int .i64 4])∧Below w.heap.size w w':=by
  obtain ⟨Z,hZ⟩:∃ Z,Z=zC:=⟨_,rfl⟩
  have HZZ:Hid (Z=zC):=hZ
  have HZS:Hid (Z.size=25):=by rw [hZ]; rfl
  clear hZ
  have h1c:Hid _:=h1
  obtain ⟨W1,hW1⟩:∃ W1,W1=(w.alloc (.cells C 42)).alloc (.cells Z 42):=⟨_,rfl⟩
  obtain ⟨r,hr⟩:∃ r,w.heap.size=r:=⟨_,rfl⟩
  have HRR:Hid (w.heap.size=r):=hr
  have HA:Hid (Below w.heap.size w W1∧W1.heap[r]?=some (.cells C 42)∧W1.heap[r + 1]?=some (.cells Z 42)):=by
    rw [hW1,← hr]
    exact two_rows (Below.refl _ _)
  have HRG:Hid (W1.rangeAt r 0 C.toList):=fun j v hv=>by rw [cellC HA.out.2.1]; simpa using hv
  clear hr h1
  have hkb:(k == 2)=false:=by rw [beq_eq_false_iff_ne]; exact hk
  go_enter Tryz.func33,Tryz.ntmps33
  go_upto_region 1 with (refine alR rfl rfl Z HZZ.out ?_)
  rw [← hW1,HRR.out]
  clear hW1
  have c0:W1.cell? ⟨r,0,none⟩=some (.int .i64 k):=(cellC HA.out.2.1).trans h0
  go_wp2_with (first | refine ldR C r _ (by rfl) rfl rfl HRG.out h25 ?_ | (refine stR rfl _ _ rfl (r + 1) C Z rfl rfl h25 h1c.out HZS.out HA.out.2.2 ?_; intro W4 hr4 hm4))
  have hlv:=run_loadVar_mid (P:=Tryz.prog) W4 (r + 1) 0 42 C.toList _ (fun j v hv=>by rw [cell_of_row _ _ _ _ _ _ hr4]; simpa using hv) Tryz.underlying42 rfl (by rw [Array.length_toList,h25]; exact i53)
  rw [Array.toArray_toList] at hlv
  refine bodyPost_ret (v:=.tuple #[.agg C,.slice none 0 0,.int .i64 4]) (by simp [results,Tryz.results33,asAddr,hlv,Result.andThen]) rfl ⟨rfl,HA.out.1.trans (hm4.below (by rw [HRR.out]; omega) HA.out.1.size)⟩
set_option maxHeartbeats 1000000 in
set_option maxRecDepth 20000 in
theorem rInsert_ref (C:Array Value) (k:Int) (hk:k ≠ 2) (h0:C[0]?=some (.int .i64 k)) (h25:C.size=25) (h1:C.all (·.oneCell')=true) (i:Int) (s:ByteArray) (w:World):Calls Tryz.prog 38 #[.agg C,.int .i64 i,.string s] w fun e w'=>e=.returned (.tuple #[.agg C,.int .i64 4])∧Below w.heap.size w w':=by
  obtain ⟨Z,hZ⟩:∃ Z,Z=zC:=⟨_,rfl⟩
  have HZZ:Hid (Z=zC):=hZ
  have HZS:Hid (Z.size=25):=by rw [hZ]; rfl
  clear hZ
  have h1c:Hid _:=h1
  obtain ⟨W1,hW1⟩:∃ W1,W1=(w.alloc (.cells C 42)).alloc (.cells Z 42):=⟨_,rfl⟩
  obtain ⟨r,hr⟩:∃ r,w.heap.size=r:=⟨_,rfl⟩
  have HRR:Hid (w.heap.size=r):=hr
  have HA:Hid (Below w.heap.size w W1∧W1.heap[r]?=some (.cells C 42)∧W1.heap[r + 1]?=some (.cells Z 42)):=by
    rw [hW1,← hr]
    exact two_rows (Below.refl _ _)
  have HRG:Hid (W1.rangeAt r 0 C.toList):=fun j v hv=>by rw [cellC HA.out.2.1]; simpa using hv
  clear hr h1
  have hkb:(k == 2)=false:=by rw [beq_eq_false_iff_ne]; exact hk
  go_enter Tryz.func38,Tryz.ntmps38
  go_upto_region 1 with (refine alR rfl rfl Z HZZ.out ?_)
  rw [← hW1,HRR.out]
  clear hW1
  have c0:W1.cell? ⟨r,0,none⟩=some (.int .i64 k):=(cellC HA.out.2.1).trans h0
  go_wp2_with (first | refine ldR C r _ (by rfl) rfl rfl HRG.out h25 ?_ | (refine stR rfl _ _ rfl (r + 1) C Z rfl rfl h25 h1c.out HZS.out HA.out.2.2 ?_; intro W4 hr4 hm4))
  have hlv:=run_loadVar_mid (P:=Tryz.prog) W4 (r + 1) 0 42 C.toList _ (fun j v hv=>by rw [cell_of_row _ _ _ _ _ _ hr4]; simpa using hv) Tryz.underlying42 rfl (by rw [Array.length_toList,h25]; exact i53)
  rw [Array.toArray_toList] at hlv
  refine bodyPost_ret (v:=.tuple #[.agg C,.int .i64 4]) (by simp [results,Tryz.results38,asAddr,hlv,Result.andThen]) rfl ⟨rfl,HA.out.1.trans (hm4.below (by rw [HRR.out]; omega) HA.out.1.size)⟩
set_option maxHeartbeats 1000000 in
set_option maxRecDepth 20000 in
theorem rRemove_ref (C:Array Value) (k:Int) (hk:k ≠ 2) (h0:C[0]?=some (.int .i64 k)) (h25:C.size=25) (h1:C.all (·.oneCell')=true) (i n:Int) (w:World):Calls Tryz.prog 40 #[.agg C,.int .i64 i,.int .i64 n] w fun e w'=>e=.returned (.tuple #[.agg C,.int .i64 4])∧Below w.heap.size w w':=by
  obtain ⟨Z,hZ⟩:∃ Z,Z=zC:=⟨_,rfl⟩
  have HZZ:Hid (Z=zC):=hZ
  have HZS:Hid (Z.size=25):=by rw [hZ]; rfl
  clear hZ
  have h1c:Hid _:=h1
  obtain ⟨W1,hW1⟩:∃ W1,W1=(w.alloc (.cells C 42)).alloc (.cells Z 42):=⟨_,rfl⟩
  obtain ⟨r,hr⟩:∃ r,w.heap.size=r:=⟨_,rfl⟩
  have HRR:Hid (w.heap.size=r):=hr
  have HA:Hid (Below w.heap.size w W1∧W1.heap[r]?=some (.cells C 42)∧W1.heap[r + 1]?=some (.cells Z 42)):=by
    rw [hW1,← hr]
    exact two_rows (Below.refl _ _)
  have HRG:Hid (W1.rangeAt r 0 C.toList):=fun j v hv=>by rw [cellC HA.out.2.1]; simpa using hv
  clear hr h1
  have hkb:(k == 2)=false:=by rw [beq_eq_false_iff_ne]; exact hk
  go_enter Tryz.func40,Tryz.ntmps40
  go_upto_region 1 with (refine alR rfl rfl Z HZZ.out ?_)
  rw [← hW1,HRR.out]
  clear hW1
  have c0:W1.cell? ⟨r,0,none⟩=some (.int .i64 k):=(cellC HA.out.2.1).trans h0
  go_wp2_with (first | refine ldR C r _ (by rfl) rfl rfl HRG.out h25 ?_ | (refine stR rfl _ _ rfl (r + 1) C Z rfl rfl h25 h1c.out HZS.out HA.out.2.2 ?_; intro W4 hr4 hm4))
  have hlv:=run_loadVar_mid (P:=Tryz.prog) W4 (r + 1) 0 42 C.toList _ (fun j v hv=>by rw [cell_of_row _ _ _ _ _ _ hr4]; simpa using hv) Tryz.underlying42 rfl (by rw [Array.length_toList,h25]; exact i53)
  rw [Array.toArray_toList] at hlv
  refine bodyPost_ret (v:=.tuple #[.agg C,.int .i64 4]) (by simp [results,Tryz.results40,asAddr,hlv,Result.andThen]) rfl ⟨rfl,HA.out.1.trans (hm4.below (by rw [HRR.out]; omega) HA.out.1.size)⟩
set_option maxHeartbeats 1000000 in
set_option maxRecDepth 20000 in
theorem rAdd_ref (C:Array Value) (k:Int) (hk:k ≠ 3) (h0:C[0]?=some (.int .i64 k)) (h25:C.size=25) (h1:C.all (·.oneCell')=true) (v:Value) (w:World):Calls Tryz.prog 95 #[.agg C,v] w fun e w'=>e=.returned (.tuple #[.agg C,.int .i64 0,.int .i64 4])∧Below w.heap.size w w':=by
  obtain ⟨Z,hZ⟩:∃ Z,Z=zC:=⟨_,rfl⟩
  have HZZ:Hid (Z=zC):=hZ
  have HZS:Hid (Z.size=25):=by rw [hZ]; rfl
  clear hZ
  have h1c:Hid _:=h1
  obtain ⟨W1,hW1⟩:∃ W1,W1=(w.alloc (.cells C 42)).alloc (.cells Z 42):=⟨_,rfl⟩
  obtain ⟨r,hr⟩:∃ r,w.heap.size=r:=⟨_,rfl⟩
  have HRR:Hid (w.heap.size=r):=hr
  have HA:Hid (Below w.heap.size w W1∧W1.heap[r]?=some (.cells C 42)∧W1.heap[r + 1]?=some (.cells Z 42)):=by
    rw [hW1,← hr]
    exact two_rows (Below.refl _ _)
  have HRG:Hid (W1.rangeAt r 0 C.toList):=fun j v hv=>by rw [cellC HA.out.2.1]; simpa using hv
  clear hr h1
  have hkb:(k == 3)=false:=by rw [beq_eq_false_iff_ne]; exact hk
  go_enter Tryz.func95,Tryz.ntmps95
  go_upto_region 1 with (refine alR rfl rfl Z HZZ.out ?_)
  rw [← hW1,HRR.out]
  clear hW1
  have c0:W1.cell? ⟨r,0,none⟩=some (.int .i64 k):=(cellC HA.out.2.1).trans h0
  go_wp2_with (first | refine ldR C r _ (by rfl) rfl rfl HRG.out h25 ?_ | (refine stR rfl _ _ rfl (r + 1) C Z rfl rfl h25 h1c.out HZS.out HA.out.2.2 ?_; intro W4 hr4 hm4))
  have hlv:=run_loadVar_mid (P:=Tryz.prog) W4 (r + 1) 0 42 C.toList _ (fun j v hv=>by rw [cell_of_row _ _ _ _ _ _ hr4]; simpa using hv) Tryz.underlying42 rfl (by rw [Array.length_toList,h25]; exact i53)
  rw [Array.toArray_toList] at hlv
  refine bodyPost_ret (v:=.tuple #[.agg C,.int .i64 0,.int .i64 4]) (by simp [results,Tryz.results95,asAddr,hlv,Result.andThen]) rfl ⟨rfl,HA.out.1.trans (hm4.below (by rw [HRR.out]; omega) HA.out.1.size)⟩
set_option maxHeartbeats 1000000 in
set_option maxRecDepth 20000 in
theorem rPut_ref (C:Array Value) (k:Int) (hk:k ≠ 5) (h0:C[0]?=some (.int .i64 k)) (h25:C.size=25) (h1:C.all (·.oneCell')=true) (v:Value) (w:World):Calls Tryz.prog 98 #[.agg C,v] w fun e w'=>e=.returned (.tuple #[.agg C,.int .i64 0,.int .i64 4])∧Below w.heap.size w w':=by
  obtain ⟨Z,hZ⟩:∃ Z,Z=zC:=⟨_,rfl⟩
  have HZZ:Hid (Z=zC):=hZ
  have HZS:Hid (Z.size=25):=by rw [hZ]; rfl
  clear hZ
  have h1c:Hid _:=h1
  obtain ⟨W1,hW1⟩:∃ W1,W1=(w.alloc (.cells C 42)).alloc (.cells Z 42):=⟨_,rfl⟩
  obtain ⟨r,hr⟩:∃ r,w.heap.size=r:=⟨_,rfl⟩
  have HRR:Hid (w.heap.size=r):=hr
  have HA:Hid (Below w.heap.size w W1∧W1.heap[r]?=some (.cells C 42)∧W1.heap[r + 1]?=some (.cells Z 42)):=by
    rw [hW1,← hr]
    exact two_rows (Below.refl _ _)
  have HRG:Hid (W1.rangeAt r 0 C.toList):=fun j v hv=>by rw [cellC HA.out.2.1]; simpa using hv
  clear hr h1
  have hkb:(k == 5)=false:=by rw [beq_eq_false_iff_ne]; exact hk
  go_enter Tryz.func98,Tryz.ntmps98
  go_upto_region 1 with (refine alR rfl rfl Z HZZ.out ?_)
  rw [← hW1,HRR.out]
  clear hW1
  have c0:W1.cell? ⟨r,0,none⟩=some (.int .i64 k):=(cellC HA.out.2.1).trans h0
  go_wp2_with (first | refine ldR C r _ (by rfl) rfl rfl HRG.out h25 ?_ | (refine stR rfl _ _ rfl (r + 1) C Z rfl rfl h25 h1c.out HZS.out HA.out.2.2 ?_; intro W4 hr4 hm4))
  have hlv:=run_loadVar_mid (P:=Tryz.prog) W4 (r + 1) 0 42 C.toList _ (fun j v hv=>by rw [cell_of_row _ _ _ _ _ _ hr4]; simpa using hv) Tryz.underlying42 rfl (by rw [Array.length_toList,h25]; exact i53)
  rw [Array.toArray_toList] at hlv
  refine bodyPost_ret (v:=.tuple #[.agg C,.int .i64 0,.int .i64 4]) (by simp [results,Tryz.results98,asAddr,hlv,Result.andThen]) rfl ⟨rfl,HA.out.1.trans (hm4.below (by rw [HRR.out]; omega) HA.out.1.size)⟩
set_option maxHeartbeats 1000000 in
set_option maxRecDepth 20000 in
theorem rZAdd_ref (C:Array Value) (k:Int) (hk:k ≠ 4) (h0:C[0]?=some (.int .i64 k)) (h25:C.size=25) (h1:C.all (·.oneCell')=true) (v:Value) (w:World):Calls Tryz.prog 102 #[.agg C,v] w fun e w'=>e=.returned (.tuple #[.agg C,.int .i64 0,.int .i64 4])∧Below w.heap.size w w':=by
  obtain ⟨Z,hZ⟩:∃ Z,Z=zC:=⟨_,rfl⟩
  have HZZ:Hid (Z=zC):=hZ
  have HZS:Hid (Z.size=25):=by rw [hZ]; rfl
  clear hZ
  have h1c:Hid _:=h1
  obtain ⟨W1,hW1⟩:∃ W1,W1=(w.alloc (.cells C 42)).alloc (.cells Z 42):=⟨_,rfl⟩
  obtain ⟨r,hr⟩:∃ r,w.heap.size=r:=⟨_,rfl⟩
  have HRR:Hid (w.heap.size=r):=hr
  have HA:Hid (Below w.heap.size w W1∧W1.heap[r]?=some (.cells C 42)∧W1.heap[r + 1]?=some (.cells Z 42)):=by
    rw [hW1,← hr]
    exact two_rows (Below.refl _ _)
  have HRG:Hid (W1.rangeAt r 0 C.toList):=fun j v hv=>by rw [cellC HA.out.2.1]; simpa using hv
  clear hr h1
  have hkb:(k == 4)=false:=by rw [beq_eq_false_iff_ne]; exact hk
  go_enter Tryz.func102,Tryz.ntmps102
  go_upto_region 1 with (refine alR rfl rfl Z HZZ.out ?_)
  rw [← hW1,HRR.out]
  clear hW1
  have c0:W1.cell? ⟨r,0,none⟩=some (.int .i64 k):=(cellC HA.out.2.1).trans h0
  go_wp2_with (first | refine ldR C r _ (by rfl) rfl rfl HRG.out h25 ?_ | (refine stR rfl _ _ rfl (r + 1) C Z rfl rfl h25 h1c.out HZS.out HA.out.2.2 ?_; intro W4 hr4 hm4))
  have hlv:=run_loadVar_mid (P:=Tryz.prog) W4 (r + 1) 0 42 C.toList _ (fun j v hv=>by rw [cell_of_row _ _ _ _ _ _ hr4]; simpa using hv) Tryz.underlying42 rfl (by rw [Array.length_toList,h25]; exact i53)
  rw [Array.toArray_toList] at hlv
  refine bodyPost_ret (v:=.tuple #[.agg C,.int .i64 0,.int .i64 4]) (by simp [results,Tryz.results102,asAddr,hlv,Result.andThen]) rfl ⟨rfl,HA.out.1.trans (hm4.below (by rw [HRR.out]; omega) HA.out.1.size)⟩
set_option maxHeartbeats 1000000 in
set_option maxRecDepth 20000 in
theorem rwithout_ref (C:Array Value) (k kk:Int) (hk:k ≠ kk) (h0:C[0]?=some (.int .i64 k)) (h25:C.size=25) (h1:C.all (·.oneCell')=true) (v:Value) (w:World):Calls Tryz.prog 169 #[.agg C,.int .i64 kk,v] w fun e w'=>e=.returned (.tuple #[.agg C,.int .i64 0,.int .i64 4])∧Below w.heap.size w w':=by
  obtain ⟨Z,hZ⟩:∃ Z,Z=zC:=⟨_,rfl⟩
  have HZZ:Hid (Z=zC):=hZ
  have HZS:Hid (Z.size=25):=by rw [hZ]; rfl
  clear hZ
  have h1c:Hid _:=h1
  obtain ⟨W1,hW1⟩:∃ W1,W1=(w.alloc (.cells C 42)).alloc (.cells Z 42):=⟨_,rfl⟩
  obtain ⟨r,hr⟩:∃ r,w.heap.size=r:=⟨_,rfl⟩
  have HRR:Hid (w.heap.size=r):=hr
  have HA:Hid (Below w.heap.size w W1∧W1.heap[r]?=some (.cells C 42)∧W1.heap[r + 1]?=some (.cells Z 42)):=by
    rw [hW1,← hr]
    exact two_rows (Below.refl _ _)
  have HRG:Hid (W1.rangeAt r 0 C.toList):=fun j v hv=>by rw [cellC HA.out.2.1]; simpa using hv
  clear hr h1
  have hkb:(k == kk)=false:=by rw [beq_eq_false_iff_ne]; exact hk
  go_enter Tryz.func169,Tryz.ntmps169
  go_upto_region 1 with (refine alR rfl rfl Z HZZ.out ?_)
  rw [← hW1,HRR.out]
  clear hW1
  have c0:W1.cell? ⟨r,0,none⟩=some (.int .i64 k):=(cellC HA.out.2.1).trans h0
  go_wp2_with (first | refine ldR C r _ (by rfl) rfl rfl HRG.out h25 ?_ | (refine stR rfl _ _ rfl (r + 1) C Z rfl rfl h25 h1c.out HZS.out HA.out.2.2 ?_; intro W4 hr4 hm4))
  have hlv:=run_loadVar_mid (P:=Tryz.prog) W4 (r + 1) 0 42 C.toList _ (fun j v hv=>by rw [cell_of_row _ _ _ _ _ _ hr4]; simpa using hv) Tryz.underlying42 rfl (by rw [Array.length_toList,h25]; exact i53)
  rw [Array.toArray_toList] at hlv
  refine bodyPost_ret (v:=.tuple #[.agg C,.int .i64 0,.int .i64 4]) (by simp [results,Tryz.results169,asAddr,hlv,Result.andThen]) rfl ⟨rfl,HA.out.1.trans (hm4.below (by rw [HRR.out]; omega) HA.out.1.size)⟩
set_option maxHeartbeats 1000000 in
set_option maxRecDepth 20000 in
theorem rSetAt_ref (C:Array Value) (k:Int) (hk:k ≠ 2) (h0:C[0]?=some (.int .i64 k)) (h25:C.size=25) (h1:C.all (·.oneCell')=true) (i:Int) (s:ByteArray) (w:World):Calls Tryz.prog 36 #[.agg C,.int .i64 i,.string s] w fun e w'=>e=.returned (.tuple #[.agg C,.int .i64 4])∧Below w.heap.size w w':=by
  obtain ⟨Z,hZ⟩:∃ Z,Z=zC:=⟨_,rfl⟩
  have HZZ:Hid (Z=zC):=hZ
  have HZS:Hid (Z.size=25):=by rw [hZ]; rfl
  clear hZ
  have h1c:Hid _:=h1
  obtain ⟨W1,hW1⟩:∃ W1,W1=(w.alloc (.cells C 42)).alloc (.cells Z 42):=⟨_,rfl⟩
  obtain ⟨r,hr⟩:∃ r,w.heap.size=r:=⟨_,rfl⟩
  have HRR:Hid (w.heap.size=r):=hr
  have HA:Hid (Below w.heap.size w W1∧W1.heap[r]?=some (.cells C 42)∧W1.heap[r + 1]?=some (.cells Z 42)):=by
    rw [hW1,← hr]
    exact two_rows (Below.refl _ _)
  have HRG:Hid (W1.rangeAt r 0 C.toList):=fun j v hv=>by rw [cellC HA.out.2.1]; simpa using hv
  clear hr h1
  have hkb:(k == 2)=false:=by rw [beq_eq_false_iff_ne]; exact hk
  go_enter Tryz.func36,Tryz.ntmps36
  go_upto_region 1 with (refine alR rfl rfl Z HZZ.out ?_)
  rw [← hW1,HRR.out]
  clear hW1
  have c0:W1.cell? ⟨r,0,none⟩=some (.int .i64 k):=(cellC HA.out.2.1).trans h0
  go_wp2_with (refine ldR C r _ (by rfl) rfl rfl HRG.out h25 ?_)
  refine (show Calls _ _ _ _ _ from rAt_ref C k hk h0 i _).mono ?_
  rintro e w2 ⟨rfl,hb2⟩
  have HB2:Hid (Below W1.heap.size W1 w2):=hb2
  have HR2:Hid (w2.heap[r + 1]?=some (.cells Z 42)):=keep_row HA.out.2.2 hb2
  have HRG2:Hid (w2.rangeAt r 0 C.toList):=fun j v hv=>by rw [cellC (keep_row HA.out.2.1 hb2)]; simpa using hv
  clear hb2 c0
  go_wp2_with (first | refine ldR C r _ (by rfl) rfl rfl HRG2.out h25 ?_ | (refine stR rfl _ _ rfl (r + 1) C Z rfl rfl h25 h1c.out HZS.out HR2.out ?_; intro W4 hr4 hm4))
  have hlv:=run_loadVar_mid (P:=Tryz.prog) W4 (r + 1) 0 42 C.toList _ (fun j v hv=>by rw [cell_of_row _ _ _ _ _ _ hr4]; simpa using hv) Tryz.underlying42 rfl (by rw [Array.length_toList,h25]; exact i53)
  rw [Array.toArray_toList] at hlv
  have hbw:Below w.heap.size w w2:=HA.out.1.trans (HB2.out.mono HA.out.1.size)
  refine bodyPost_ret (v:=.tuple #[.agg C,.int .i64 4]) (by simp [results,Tryz.results36,asAddr,hlv,Result.andThen]) rfl ⟨rfl,hbw.trans (hm4.below (by rw [HRR.out]; omega) hbw.size)⟩
set_option maxHeartbeats 1000000 in
set_option maxRecDepth 20000 in
theorem rDrop_ref (C:Array Value) (k:Int) (hk:k ≠ 3) (h0:C[0]?=some (.int .i64 k)) (h25:C.size=25) (h1:C.all (·.oneCell')=true) (v:Value) (w:World):Calls Tryz.prog 97 #[.agg C,v] w fun e w'=>e=.returned (.tuple #[.agg C,.int .i64 0,.int .i64 4])∧Below w.heap.size w w':=by
  obtain ⟨Z,hZ⟩:∃ Z,Z=zC:=⟨_,rfl⟩
  have HZZ:Hid (Z=zC):=hZ
  have HZS:Hid (Z.size=25):=by rw [hZ]; rfl
  clear hZ
  have h1c:Hid _:=h1
  obtain ⟨W1,hW1⟩:∃ W1,W1=(w.alloc (.cells C 42)).alloc (.cells Z 42):=⟨_,rfl⟩
  obtain ⟨r,hr⟩:∃ r,w.heap.size=r:=⟨_,rfl⟩
  have HRR:Hid (w.heap.size=r):=hr
  have HA:Hid (Below w.heap.size w W1∧W1.heap[r]?=some (.cells C 42)∧W1.heap[r + 1]?=some (.cells Z 42)):=by
    rw [hW1,← hr]
    exact two_rows (Below.refl _ _)
  have HRG:Hid (W1.rangeAt r 0 C.toList):=fun j v hv=>by rw [cellC HA.out.2.1]; simpa using hv
  clear hr h1
  have hkb:(k == 3)=false:=by rw [beq_eq_false_iff_ne]; exact hk
  go_enter Tryz.func97,Tryz.ntmps97
  go_upto_region 1 with (refine alR rfl rfl Z HZZ.out ?_)
  rw [← hW1,HRR.out]
  clear hW1
  have c0:W1.cell? ⟨r,0,none⟩=some (.int .i64 k):=(cellC HA.out.2.1).trans h0
  go_wp2_with (refine ldR C r _ (by rfl) rfl rfl HRG.out h25 ?_)
  refine (show Calls _ _ _ _ _ from rwithout_ref C k 3 hk h0 h25 h1c.out v _).mono ?_
  rintro e w2 ⟨rfl,hb2⟩
  have HB2:Hid (Below W1.heap.size W1 w2):=hb2
  have HR2:Hid (w2.heap[r + 1]?=some (.cells Z 42)):=keep_row HA.out.2.2 hb2
  have HRG2:Hid (w2.rangeAt r 0 C.toList):=fun j v hv=>by rw [cellC (keep_row HA.out.2.1 hb2)]; simpa using hv
  clear hb2 c0
  go_wp2_with (first | refine ldR C r _ (by rfl) rfl rfl HRG2.out h25 ?_ | (refine stR rfl _ _ rfl (r + 1) C Z rfl rfl h25 h1c.out HZS.out HR2.out ?_; intro W4 hr4 hm4))
  have hlv:=run_loadVar_mid (P:=Tryz.prog) W4 (r + 1) 0 42 C.toList _ (fun j v hv=>by rw [cell_of_row _ _ _ _ _ _ hr4]; simpa using hv) Tryz.underlying42 rfl (by rw [Array.length_toList,h25]; exact i53)
  rw [Array.toArray_toList] at hlv
  have hbw:Below w.heap.size w w2:=HA.out.1.trans (HB2.out.mono HA.out.1.size)
  refine bodyPost_ret (v:=.tuple #[.agg C,.int .i64 0,.int .i64 4]) (by simp [results,Tryz.results97,asAddr,hlv,Result.andThen]) rfl ⟨rfl,hbw.trans (hm4.below (by rw [HRR.out]; omega) hbw.size)⟩
set_option maxHeartbeats 1000000 in
set_option maxRecDepth 20000 in
theorem rErase_ref (C:Array Value) (k:Int) (hk:k ≠ 5) (h0:C[0]?=some (.int .i64 k)) (h25:C.size=25) (h1:C.all (·.oneCell')=true) (v:Value) (w:World):Calls Tryz.prog 100 #[.agg C,v] w fun e w'=>e=.returned (.tuple #[.agg C,.int .i64 0,.int .i64 4])∧Below w.heap.size w w':=by
  obtain ⟨Z,hZ⟩:∃ Z,Z=zC:=⟨_,rfl⟩
  have HZZ:Hid (Z=zC):=hZ
  have HZS:Hid (Z.size=25):=by rw [hZ]; rfl
  clear hZ
  have h1c:Hid _:=h1
  obtain ⟨W1,hW1⟩:∃ W1,W1=(w.alloc (.cells C 42)).alloc (.cells Z 42):=⟨_,rfl⟩
  obtain ⟨r,hr⟩:∃ r,w.heap.size=r:=⟨_,rfl⟩
  have HRR:Hid (w.heap.size=r):=hr
  have HA:Hid (Below w.heap.size w W1∧W1.heap[r]?=some (.cells C 42)∧W1.heap[r + 1]?=some (.cells Z 42)):=by
    rw [hW1,← hr]
    exact two_rows (Below.refl _ _)
  have HRG:Hid (W1.rangeAt r 0 C.toList):=fun j v hv=>by rw [cellC HA.out.2.1]; simpa using hv
  clear hr h1
  have hkb:(k == 5)=false:=by rw [beq_eq_false_iff_ne]; exact hk
  go_enter Tryz.func100,Tryz.ntmps100
  go_upto_region 1 with (refine alR rfl rfl Z HZZ.out ?_)
  rw [← hW1,HRR.out]
  clear hW1
  have c0:W1.cell? ⟨r,0,none⟩=some (.int .i64 k):=(cellC HA.out.2.1).trans h0
  go_wp2_with (refine ldR C r _ (by rfl) rfl rfl HRG.out h25 ?_)
  refine (show Calls _ _ _ _ _ from rwithout_ref C k 5 hk h0 h25 h1c.out v _).mono ?_
  rintro e w2 ⟨rfl,hb2⟩
  have HB2:Hid (Below W1.heap.size W1 w2):=hb2
  have HR2:Hid (w2.heap[r + 1]?=some (.cells Z 42)):=keep_row HA.out.2.2 hb2
  have HRG2:Hid (w2.rangeAt r 0 C.toList):=fun j v hv=>by rw [cellC (keep_row HA.out.2.1 hb2)]; simpa using hv
  clear hb2 c0
  go_wp2_with (first | refine ldR C r _ (by rfl) rfl rfl HRG2.out h25 ?_ | (refine stR rfl _ _ rfl (r + 1) C Z rfl rfl h25 h1c.out HZS.out HR2.out ?_; intro W4 hr4 hm4))
  have hlv:=run_loadVar_mid (P:=Tryz.prog) W4 (r + 1) 0 42 C.toList _ (fun j v hv=>by rw [cell_of_row _ _ _ _ _ _ hr4]; simpa using hv) Tryz.underlying42 rfl (by rw [Array.length_toList,h25]; exact i53)
  rw [Array.toArray_toList] at hlv
  have hbw:Below w.heap.size w w2:=HA.out.1.trans (HB2.out.mono HA.out.1.size)
  refine bodyPost_ret (v:=.tuple #[.agg C,.int .i64 0,.int .i64 4]) (by simp [results,Tryz.results100,asAddr,hlv,Result.andThen]) rfl ⟨rfl,hbw.trans (hm4.below (by rw [HRR.out]; omega) hbw.size)⟩
set_option maxHeartbeats 1000000 in
set_option maxRecDepth 20000 in
theorem rZDrop_ref (C:Array Value) (k:Int) (hk:k ≠ 4) (h0:C[0]?=some (.int .i64 k)) (h25:C.size=25) (h1:C.all (·.oneCell')=true) (v:Value) (w:World):Calls Tryz.prog 104 #[.agg C,v] w fun e w'=>e=.returned (.tuple #[.agg C,.int .i64 0,.int .i64 4])∧Below w.heap.size w w':=by
  obtain ⟨Z,hZ⟩:∃ Z,Z=zC:=⟨_,rfl⟩
  have HZZ:Hid (Z=zC):=hZ
  have HZS:Hid (Z.size=25):=by rw [hZ]; rfl
  clear hZ
  have h1c:Hid _:=h1
  obtain ⟨W1,hW1⟩:∃ W1,W1=(w.alloc (.cells C 42)).alloc (.cells Z 42):=⟨_,rfl⟩
  obtain ⟨r,hr⟩:∃ r,w.heap.size=r:=⟨_,rfl⟩
  have HRR:Hid (w.heap.size=r):=hr
  have HA:Hid (Below w.heap.size w W1∧W1.heap[r]?=some (.cells C 42)∧W1.heap[r + 1]?=some (.cells Z 42)):=by
    rw [hW1,← hr]
    exact two_rows (Below.refl _ _)
  have HRG:Hid (W1.rangeAt r 0 C.toList):=fun j v hv=>by rw [cellC HA.out.2.1]; simpa using hv
  clear hr h1
  have hkb:(k == 4)=false:=by rw [beq_eq_false_iff_ne]; exact hk
  go_enter Tryz.func104,Tryz.ntmps104
  go_upto_region 1 with (refine alR rfl rfl Z HZZ.out ?_)
  rw [← hW1,HRR.out]
  clear hW1
  have c0:W1.cell? ⟨r,0,none⟩=some (.int .i64 k):=(cellC HA.out.2.1).trans h0
  go_wp2_with (refine ldR C r _ (by rfl) rfl rfl HRG.out h25 ?_)
  refine (show Calls _ _ _ _ _ from rwithout_ref C k 4 hk h0 h25 h1c.out v _).mono ?_
  rintro e w2 ⟨rfl,hb2⟩
  have HB2:Hid (Below W1.heap.size W1 w2):=hb2
  have HR2:Hid (w2.heap[r + 1]?=some (.cells Z 42)):=keep_row HA.out.2.2 hb2
  have HRG2:Hid (w2.rangeAt r 0 C.toList):=fun j v hv=>by rw [cellC (keep_row HA.out.2.1 hb2)]; simpa using hv
  clear hb2 c0
  go_wp2_with (first | refine ldR C r _ (by rfl) rfl rfl HRG2.out h25 ?_ | (refine stR rfl _ _ rfl (r + 1) C Z rfl rfl h25 h1c.out HZS.out HR2.out ?_; intro W4 hr4 hm4))
  have hlv:=run_loadVar_mid (P:=Tryz.prog) W4 (r + 1) 0 42 C.toList _ (fun j v hv=>by rw [cell_of_row _ _ _ _ _ _ hr4]; simpa using hv) Tryz.underlying42 rfl (by rw [Array.length_toList,h25]; exact i53)
  rw [Array.toArray_toList] at hlv
  have hbw:Below w.heap.size w w2:=HA.out.1.trans (HB2.out.mono HA.out.1.size)
  refine bodyPost_ret (v:=.tuple #[.agg C,.int .i64 0,.int .i64 4]) (by simp [results,Tryz.results104,asAddr,hlv,Result.andThen]) rfl ⟨rfl,hbw.trans (hm4.below (by rw [HRR.out]; omega) hbw.size)⟩
end Go.Proofs.YtiefeeoellagnaaGreatDoor.V
namespace Go.Proofs.YtiefeeoellagnaaGreatDoor.V
open Go.RowKit
open S6 (Laid Lay)
set_option linter.unusedVariables false
set_option linter.unusedSimpArgs false
def RS (C:Array Value) (s:ByteArray):Prop:=C.size=25∧C[0]?=some (.int .i64 1)∧C[10]?=some (.string lpE)∧C[11]?=some (.string s)∧C[16]?=some (.slice none 0 0)∧C.all (·.oneCell')=true
set_option maxHeartbeats 1000000 in
set_option maxRecDepth 20000 in
theorem ds_Text (C:Array Value) (s:ByteArray) (hC:RS C s) (w:World):Calls Tryz.prog 50 #[.agg C] w fun e w'=>e=.returned (.tuple #[.string s,.int .i64 0])∧Below w.heap.size w w':=by
  obtain ⟨W1,hW1⟩:∃ W1,W1=w.alloc (.cells C 42):=⟨_,rfl⟩
  obtain ⟨r,hr⟩:∃ r,w.heap.size=r:=⟨_,rfl⟩
  have HB:Hid (Below w.heap.size w W1):=by rw [hW1]; exact (Below.refl _ _).alloc (Nat.le_refl _) _
  have HR:Hid (W1.heap[r]?=some (.cells C 42)):=by rw [hW1,← hr]; exact one_alloc _ _
  have HRR:Hid (w.heap.size=r):=hr
  have HRG:Hid (∀ W,Below W1.heap.size W1 W → W.rangeAt r 0 C.toList):=fun W hW j v hv=>by rw [cellC (keep_row HR.out hW)]; simpa using hv
  obtain ⟨h25,k0,k10,k11,k16,k1c⟩:=hC
  clear hr
  go_enter Tryz.func50,Tryz.ntmps50
  go_upto_region 1 with fail
  rw [← hW1,HRR.out]
  clear hW1
  have c0:W1.cell? ⟨r,0,none⟩=some (.int .i64 1):=(cellC HR.out).trans k0
  have c10:W1.cell? ⟨r,10,none⟩=some (.string lpE):=(cellC HR.out).trans k10
  have c11:W1.cell? ⟨r,11,none⟩=some (.string s):=(cellC HR.out).trans k11
  have c16:W1.cell? ⟨r,16,none⟩=some (.slice none 0 0):=(cellC HR.out).trans k16
  unfold lpE at c10
  go_wp2
  go_returns
  exact ⟨rfl,HB.out⟩
set_option maxHeartbeats 1000000 in
set_option maxRecDepth 20000 in
theorem ds_Len (C:Array Value) (s:ByteArray) (hC:RS C s) (w:World):Calls Tryz.prog 44 #[.agg C] w fun e w'=>e=.returned (.int .i64 s.size)∧Below w.heap.size w w':=by
  obtain ⟨W1,hW1⟩:∃ W1,W1=w.alloc (.cells C 42):=⟨_,rfl⟩
  obtain ⟨r,hr⟩:∃ r,w.heap.size=r:=⟨_,rfl⟩
  have HB:Hid (Below w.heap.size w W1):=by rw [hW1]; exact (Below.refl _ _).alloc (Nat.le_refl _) _
  have HR:Hid (W1.heap[r]?=some (.cells C 42)):=by rw [hW1,← hr]; exact one_alloc _ _
  have HRR:Hid (w.heap.size=r):=hr
  have HRG:Hid (∀ W,Below W1.heap.size W1 W → W.rangeAt r 0 C.toList):=fun W hW j v hv=>by rw [cellC (keep_row HR.out hW)]; simpa using hv
  obtain ⟨h25,k0,k10,k11,k16,k1c⟩:=hC
  clear hr
  go_enter Tryz.func44,Tryz.ntmps44
  go_upto_region 1 with fail
  rw [← hW1,HRR.out]
  clear hW1
  have c0:W1.cell? ⟨r,0,none⟩=some (.int .i64 1):=(cellC HR.out).trans k0
  have c10:W1.cell? ⟨r,10,none⟩=some (.string lpE):=(cellC HR.out).trans k10
  have c11:W1.cell? ⟨r,11,none⟩=some (.string s):=(cellC HR.out).trans k11
  have c16:W1.cell? ⟨r,16,none⟩=some (.slice none 0 0):=(cellC HR.out).trans k16
  unfold lpE at c10
  go_wp2
  go_returns
  exact ⟨rfl,HB.out⟩
set_option maxHeartbeats 1000000 in
set_option maxRecDepth 20000 in
theorem ds_names (C:Array Value) (s:ByteArray) (hC:RS C s) (w:World):Calls Tryz.prog 106 #[.agg C] w fun e w'=>e=.returned (.slice none 0 0)∧Below w.heap.size w w':=by
  obtain ⟨W1,hW1⟩:∃ W1,W1=w.alloc (.cells C 42):=⟨_,rfl⟩
  obtain ⟨r,hr⟩:∃ r,w.heap.size=r:=⟨_,rfl⟩
  have HB:Hid (Below w.heap.size w W1):=by rw [hW1]; exact (Below.refl _ _).alloc (Nat.le_refl _) _
  have HR:Hid (W1.heap[r]?=some (.cells C 42)):=by rw [hW1,← hr]; exact one_alloc _ _
  have HRR:Hid (w.heap.size=r):=hr
  have HRG:Hid (∀ W,Below W1.heap.size W1 W → W.rangeAt r 0 C.toList):=fun W hW j v hv=>by rw [cellC (keep_row HR.out hW)]; simpa using hv
  obtain ⟨h25,k0,k10,k11,k16,k1c⟩:=hC
  clear hr
  go_enter Tryz.func106,Tryz.ntmps106
  go_upto_region 1 with fail
  rw [← hW1,HRR.out]
  clear hW1
  have c0:W1.cell? ⟨r,0,none⟩=some (.int .i64 1):=(cellC HR.out).trans k0
  have c10:W1.cell? ⟨r,10,none⟩=some (.string lpE):=(cellC HR.out).trans k10
  have c11:W1.cell? ⟨r,11,none⟩=some (.string s):=(cellC HR.out).trans k11
  have c16:W1.cell? ⟨r,16,none⟩=some (.slice none 0 0):=(cellC HR.out).trans k16
  unfold lpE at c10
  go_wp2
  go_returns
  exact ⟨rfl,HB.out⟩
set_option maxHeartbeats 1000000 in
set_option maxRecDepth 20000 in
theorem ds_Raw (C:Array Value) (s:ByteArray) (hC:RS C s) (w:World):Calls Tryz.prog 48 #[.agg C] w fun e w'=>∃ g,e=.returned (.slice (some ⟨g,0,none⟩) 1 1)∧w'.cell? ⟨g,0,none⟩=some (.string s)∧Below w.heap.size w w':=by
  obtain ⟨W1,hW1⟩:∃ W1,W1=w.alloc (.cells C 42):=⟨_,rfl⟩
  obtain ⟨r,hr⟩:∃ r,w.heap.size=r:=⟨_,rfl⟩
  have HB:Hid (Below w.heap.size w W1):=by rw [hW1]; exact (Below.refl _ _).alloc (Nat.le_refl _) _
  have HR:Hid (W1.heap[r]?=some (.cells C 42)):=by rw [hW1,← hr]; exact one_alloc _ _
  have HRR:Hid (w.heap.size=r):=hr
  have HRG:Hid (∀ W,Below W1.heap.size W1 W → W.rangeAt r 0 C.toList):=fun W hW j v hv=>by rw [cellC (keep_row HR.out hW)]; simpa using hv
  obtain ⟨h25,k0,k10,k11,k16,k1c⟩:=hC
  clear hr
  go_enter Tryz.func48,Tryz.ntmps48
  go_upto_region 1 with fail
  rw [← hW1,HRR.out]
  clear hW1
  have c0:W1.cell? ⟨r,0,none⟩=some (.int .i64 1):=(cellC HR.out).trans k0
  have c10:W1.cell? ⟨r,10,none⟩=some (.string lpE):=(cellC HR.out).trans k10
  have c11:W1.cell? ⟨r,11,none⟩=some (.string s):=(cellC HR.out).trans k11
  have c16:W1.cell? ⟨r,16,none⟩=some (.slice none 0 0):=(cellC HR.out).trans k16
  unfold lpE at c10
  go_wp2
  go_returns
  exact ⟨_,rfl,cell_of_row _ _ _ _ _ _ (one_alloc _ _),HB.out.alloc HB.out.size _⟩
set_option maxHeartbeats 1000000 in
set_option maxRecDepth 20000 in
theorem ds_Size (C:Array Value) (s:ByteArray) (hC:RS C s) (hs:s.size ≤ 524288) (w:World):Calls Tryz.prog 46 #[.agg C] w fun e w'=>e=.returned (.int .i64 (48 + s.size))∧Below w.heap.size w w':=by
  have HN:Hid (∀ W,Calls Tryz.prog 106 #[.agg C] W fun e w'=>e=.returned (.slice none 0 0)∧Below W.heap.size W w'):=fun W=>ds_names C s hC W
  obtain ⟨W1,hW1⟩:∃ W1,W1=w.alloc (.cells C 42):=⟨_,rfl⟩
  obtain ⟨r,hr⟩:∃ r,w.heap.size=r:=⟨_,rfl⟩
  have HB:Hid (Below w.heap.size w W1):=by rw [hW1]; exact (Below.refl _ _).alloc (Nat.le_refl _) _
  have HR:Hid (W1.heap[r]?=some (.cells C 42)):=by rw [hW1,← hr]; exact one_alloc _ _
  have HRR:Hid (w.heap.size=r):=hr
  have HRG:Hid (∀ W,Below W1.heap.size W1 W → W.rangeAt r 0 C.toList):=fun W hW j v hv=>by rw [cellC (keep_row HR.out hW)]; simpa using hv
  obtain ⟨h25,k0,k10,k11,k16,k1c⟩:=hC
  clear hr
  go_enter Tryz.func46,Tryz.ntmps46
  go_upto_region 1 with fail
  rw [← hW1,HRR.out]
  clear hW1
  have c0:W1.cell? ⟨r,0,none⟩=some (.int .i64 1):=(cellC HR.out).trans k0
  have c10:W1.cell? ⟨r,10,none⟩=some (.string lpE):=(cellC HR.out).trans k10
  have c11:W1.cell? ⟨r,11,none⟩=some (.string s):=(cellC HR.out).trans k11
  have c16:W1.cell? ⟨r,16,none⟩=some (.slice none 0 0):=(cellC HR.out).trans k16
  unfold lpE at c10
  go_wp2_with (refine ldR C r _ (by rfl) rfl rfl (HRG.out _ (Below.refl _ _)) h25 ?_)
  refine (show Calls _ _ _ _ _ from HN.out _).mono ?_
  rintro e w2 ⟨rfl,hb2⟩
  have HB2:Hid (Below w.heap.size w w2):=HB.out.trans (hb2.mono HB.out.size)
  have c0:w2.cell? ⟨r,0,none⟩=some (.int .i64 1):=(cellC (keep_row HR.out hb2)).trans k0
  clear hb2
  go_wp2
  go_rounds 1
  go_wp2
  go_returns
  exact ⟨rfl,HB2.out⟩
set_option maxHeartbeats 1000000 in
set_option maxRecDepth 20000 in
theorem ds_tenc (s:ByteArray) (hs:s.size ≤ 524288) (w:World):Calls Tryz.prog 105 #[.string s] w fun e w'=>e=.returned (.string (encT s))∧Below w.heap.size w w':=by
  have hn:=S6.refNumber_any s (by unfold maxLen; omega) w
  unfold encT
  cases hv:Vi.numberOf s.data.toList with
  | some v =>
    rw [S6.numT_some hv] at hn
    have HN:Hid _:=hn
    clear hn hv hs
    go_enter Tryz.func105,Tryz.ntmps105
    go_wp2_with fail
    refine (show Calls _ _ _ _ _ from HN.out).mono ?_
    rintro e w2 ⟨rfl,hb2⟩
    have HB2:Hid _:=hb2
    clear hb2
    go_wp2
    go_returns
    exact ⟨rfl,HB2.out⟩
  | none =>
    rw [S6.numT_none hv] at hn
    have HN:Hid _:=hn
    clear hn hv
    by_cases h44:s.size ≤ 44
    · have h4:(s.size:Int) ≤ 44:=by omega
      go_enter Tryz.func105,Tryz.ntmps105
      go_wp2_with fail
      refine (show Calls _ _ _ _ _ from HN.out).mono ?_
      rintro e w2 ⟨rfl,hb2⟩
      have HB2:Hid _:=hb2
      clear hb2
      go_wp2
      go_returns
      exact ⟨by simp [h44],HB2.out⟩
    · have h4:¬ (s.size:Int) ≤ 44:=by omega
      go_enter Tryz.func105,Tryz.ntmps105
      go_wp2_with fail
      refine (show Calls _ _ _ _ _ from HN.out).mono ?_
      rintro e w2 ⟨rfl,hb2⟩
      have HB2:Hid _:=hb2
      clear hb2
      go_wp2
      go_returns
      exact ⟨by simp [h44],HB2.out⟩
set_option maxHeartbeats 1000000 in
set_option maxRecDepth 20000 in
theorem ds_Enc (C:Array Value) (s:ByteArray) (hC:RS C s) (hs:s.size ≤ 524288) (w:World):Calls Tryz.prog 43 #[.agg C] w fun e w'=>e=.returned (.string (encT s))∧Below w.heap.size w w':=by
  have HN:Hid _:=ds_tenc s hs
  obtain ⟨W1,hW1⟩:∃ W1,W1=w.alloc (.cells C 42):=⟨_,rfl⟩
  obtain ⟨r,hr⟩:∃ r,w.heap.size=r:=⟨_,rfl⟩
  have HB:Hid (Below w.heap.size w W1):=by rw [hW1]; exact (Below.refl _ _).alloc (Nat.le_refl _) _
  have HR:Hid (W1.heap[r]?=some (.cells C 42)):=by rw [hW1,← hr]; exact one_alloc _ _
  have HRR:Hid (w.heap.size=r):=hr
  have HRG:Hid (∀ W,Below W1.heap.size W1 W → W.rangeAt r 0 C.toList):=fun W hW j v hv=>by rw [cellC (keep_row HR.out hW)]; simpa using hv
  obtain ⟨h25,k0,k10,k11,k16,k1c⟩:=hC
  clear hr
  go_enter Tryz.func43,Tryz.ntmps43
  go_upto_region 1 with fail
  rw [← hW1,HRR.out]
  clear hW1
  have c0:W1.cell? ⟨r,0,none⟩=some (.int .i64 1):=(cellC HR.out).trans k0
  have c10:W1.cell? ⟨r,10,none⟩=some (.string lpE):=(cellC HR.out).trans k10
  have c11:W1.cell? ⟨r,11,none⟩=some (.string s):=(cellC HR.out).trans k11
  have c16:W1.cell? ⟨r,16,none⟩=some (.slice none 0 0):=(cellC HR.out).trans k16
  unfold lpE at c10
  go_wp2_with fail
  refine (show Calls _ _ _ _ _ from HN.out _).mono ?_
  rintro e w2 ⟨rfl,hb2⟩
  have HB2:Hid (Below w.heap.size w w2):=HB.out.trans (hb2.mono HB.out.size)
  clear hb2
  go_wp2
  go_returns
  exact ⟨rfl,HB2.out⟩
end Go.Proofs.YtiefeeoellagnaaGreatDoor.V
namespace Go.Proofs.YtiefeeoellagnaaGreatDoor.V
open Go.RowKit
open S6 (Laid Lay)
set_option linter.unusedVariables false
set_option linter.unusedSimpArgs false
set_option maxHeartbeats 1000000 in
set_option maxRecDepth 20000 in
theorem ds_SetLong (C:Array Value) (s x:ByteArray) (hC:RS C s) (hx:524288 < x.size) (w:World):Calls Tryz.prog 29 #[.agg C,.string x] w fun e w'=>e=.returned (.tuple #[.agg C,.int .i64 2])∧Below w.heap.size w w':=by
  obtain ⟨h25,k0,k10,k11,k16,h1⟩:=hC
  have hx2:(524288:Int) < (x.size:Int):=by omega
  obtain ⟨Z,hZ⟩:∃ Z,Z=zC:=⟨_,rfl⟩
  have HZZ:Hid (Z=zC):=hZ
  have HZS:Hid (Z.size=25):=by rw [hZ]; rfl
  clear hZ
  have h1c:Hid _:=h1
  obtain ⟨W1,hW1⟩:∃ W1,W1=(w.alloc (.cells C 42)).alloc (.cells Z 42):=⟨_,rfl⟩
  obtain ⟨r,hr⟩:∃ r,w.heap.size=r:=⟨_,rfl⟩
  have HRR:Hid (w.heap.size=r):=hr
  have HA:Hid (Below w.heap.size w W1∧W1.heap[r]?=some (.cells C 42)∧W1.heap[r + 1]?=some (.cells Z 42)):=by
    rw [hW1,← hr]
    exact two_rows (Below.refl _ _)
  have HRG:Hid (W1.rangeAt r 0 C.toList):=fun j v hv=>by rw [cellC HA.out.2.1]; simpa using hv
  clear hr h1
  go_enter Tryz.func29,Tryz.ntmps29
  go_upto_region 1 with (refine alR rfl rfl Z HZZ.out ?_)
  rw [← hW1,HRR.out]
  clear hW1
  have c0:W1.cell? ⟨r,0,none⟩=some (.int .i64 1):=(cellC HA.out.2.1).trans k0
  go_wp2_with (first | refine ldR C r _ (by rfl) rfl rfl HRG.out h25 ?_ | (refine stR rfl _ _ rfl (r + 1) C Z rfl rfl h25 h1c.out HZS.out HA.out.2.2 ?_; intro W4 hr4 hm4))
  have hlv:=run_loadVar_mid (P:=Tryz.prog) W4 (r + 1) 0 42 C.toList _ (fun j v hv=>by rw [cell_of_row _ _ _ _ _ _ hr4]; simpa using hv) Tryz.underlying42 rfl (by rw [Array.length_toList,h25]; exact i53)
  rw [Array.toArray_toList] at hlv
  refine bodyPost_ret (v:=.tuple #[.agg C,.int .i64 2]) (by simp [results,Tryz.results29,asAddr,hlv,Result.andThen]) rfl ⟨rfl,HA.out.1.trans (hm4.below (by rw [HRR.out]; omega) HA.out.1.size)⟩
set_option maxHeartbeats 1000000 in
set_option maxRecDepth 20000 in
theorem ds_Set (C:Array Value) (s x:ByteArray) (hC:RS C s) (hx:x.size ≤ 524288) (w:World):Calls Tryz.prog 29 #[.agg C,.string x] w fun e w'=>e=.returned (.tuple #[.agg (C.set! 11 (.string x)),.int .i64 0])∧Below w.heap.size w w':=by
  obtain ⟨h25,k0,k10,k11,k16,h1⟩:=hC
  have hx2:¬ (524288:Int) < (x.size:Int):=by omega
  obtain ⟨Z,hZ⟩:∃ Z,Z=zC:=⟨_,rfl⟩
  have HZZ:Hid (Z=zC):=hZ
  have HZS:Hid (Z.size=25):=by rw [hZ]; rfl
  clear hZ
  have h1c:Hid _:=h1
  obtain ⟨W1,hW1⟩:∃ W1,W1=(w.alloc (.cells C 42)).alloc (.cells Z 42):=⟨_,rfl⟩
  obtain ⟨r,hr⟩:∃ r,w.heap.size=r:=⟨_,rfl⟩
  have HRR:Hid (w.heap.size=r):=hr
  have HA:Hid (Below w.heap.size w W1∧W1.heap[r]?=some (.cells C 42)∧W1.heap[r + 1]?=some (.cells Z 42)):=by
    rw [hW1,← hr]
    exact two_rows (Below.refl _ _)
  have HRG:Hid (W1.rangeAt r 0 C.toList):=fun j v hv=>by rw [cellC HA.out.2.1]; simpa using hv
  clear hr
  obtain ⟨D,hD⟩:∃ D,D=C.set! 11 (.string x):=⟨_,rfl⟩
  have hD25:D.size=25:=by rw [hD]; simp [h25]
  have HD1:Hid (D.all (·.oneCell')=true):=by
    show _=_
    rw [hD,Array.all_eq_true_iff_forall_mem]
    intro v hv
    rw [Array.set!_eq_setIfInBounds] at hv
    rcases Array.mem_or_eq_of_mem_setIfInBounds hv with h | h
    · exact (Array.all_eq_true_iff_forall_mem.1 h1) v h
    · rw [h]; rfl
  rw [← hD]
  clear h1
  obtain ⟨W2,hW2⟩:∃ W2,W2=W1.setCell ⟨r,11,none⟩ (.string x):=⟨_,rfl⟩
  have HR2:Hid (W2.heap[r]?=some (.cells D 42)):=by rw [hW2,heap_setCell_same _ _ _ _ _ _ HA.out.2.1,hD]; rfl
  have HM2:Hid (Mod r W1 W2):=Mod.only (by rw [hW2]; exact (Only.refl _ _).set _ _)
  have HZ2:Hid (W2.heap[r + 1]?=some (.cells Z 42)):=HM2.out.row HA.out.2.2 (by omega)
  have HRG2:Hid (W2.rangeAt r 0 D.toList):=fun j v hv=>by rw [cellC HR2.out]; simpa using hv
  have HB2:Hid (Below w.heap.size w W2):=HA.out.1.trans (HM2.out.below (by rw [HRR.out]; omega) HA.out.1.size)
  go_enter Tryz.func29,Tryz.ntmps29
  go_upto_region 1 with (refine alR rfl rfl Z HZZ.out ?_)
  rw [← hW1,HRR.out]
  clear hW1
  have c0:W1.cell? ⟨r,0,none⟩=some (.int .i64 1):=(cellC HA.out.2.1).trans k0
  have c11:W1.cell? ⟨r,11,none⟩=some (.string s):=(cellC HA.out.2.1).trans k11
  have cf:W1.frozen? ⟨r,11,none⟩=false:=frozen_of_row _ _ _ _ _ HA.out.2.1
  go_upto_region 6 with fail
  rw [← hW2]
  clear hW2 c0 c11 cf hD
  go_wp2_with (first | refine ldR D r _ (by rfl) rfl rfl HRG2.out hD25 ?_ | (refine stR rfl _ _ rfl (r + 1) D Z rfl rfl hD25 HD1.out HZS.out HZ2.out ?_; intro W4 hr4 hm4))
  have hlv:=run_loadVar_mid (P:=Tryz.prog) W4 (r + 1) 0 42 D.toList _ (fun j v hv=>by rw [cell_of_row _ _ _ _ _ _ hr4]; simpa using hv) Tryz.underlying42 rfl (by rw [Array.length_toList,hD25]; exact i53)
  rw [Array.toArray_toList] at hlv
  refine bodyPost_ret (v:=.tuple #[.agg D,.int .i64 0]) (by simp [results,Tryz.results29,asAddr,hlv,Result.andThen]) rfl ⟨rfl,HB2.out.trans (hm4.below (by rw [HRR.out]; omega) HB2.out.size)⟩
end Go.Proofs.YtiefeeoellagnaaGreatDoor.V
