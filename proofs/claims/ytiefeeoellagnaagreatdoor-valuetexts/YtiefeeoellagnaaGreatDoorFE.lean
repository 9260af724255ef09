import Derived.Test.YtiefeeoellagnaaGreatDoorFB
namespace Go.Proofs.YtiefeeoellagnaaGreatDoor.S5
open Go.RowKit IM
set_option linter.unusedVariables false
end Go.Proofs.YtiefeeoellagnaaGreatDoor.S5
namespace Go.Proofs.YtiefeeoellagnaaGreatDoor.S5
open Go.RowKit IM
set_option linter.unusedVariables false
end Go.Proofs.YtiefeeoellagnaaGreatDoor.S5
namespace Go.Proofs.YtiefeeoellagnaaGreatDoor.S5
open Go.RowKit IM
set_option linter.unusedVariables false
set_option maxHeartbeats 400000 in
set_option maxRecDepth 100000 in
theorem parse_ok (p:ByteArray) (h:8 ≤ p.size) (hp:p.size ≤ 9223372036854775807) (h3:W3 (wid p.data.toList)) (hm:cnt p.data.toList ≤ 1048576) (hl:p.size=8 + cnt p.data.toList * wid p.data.toList) (hr:risesB (wid p.data.toList) (cnt p.data.toList) p.data.toList=true) (w:World) :
    Calls Tryz.prog 379 #[.string p] w fun e w'=>e=.returned (.tuple #[setV p (wid p.data.toList) (cnt p.data.toList),.bool true])∧Below w.heap.size w w':=by
  obtain ⟨hd,hw,hc⟩:=head_split p h
  have hrw:=fun W=>readWord_any p 0 (by omega) W hp
  have hand:=and_32 _ _ hw hc
  rw [← hd] at hand
  generalize leN ((p.data.toList.drop 0).take 8)=X at *
  generalize wid p.data.toList=W at *
  generalize cnt p.data.toList=C at *
  have hshr:(X:Int) / 4294967296=(C:Int):=by omega
  have hX:X < 18446744073709551616:=by omega
  rw [show ((0:Nat):Int)=0 from rfl] at hrw
  have HR:Hid _:=hrw
  clear hrw hd
  have H3:Hid (W3 W):=h3
  have hcase:(((W:Int) != 2)=false) ∨ (((W:Int) != 2)=true∧((W:Int) != 4)=false) ∨ (((W:Int) != 2)=true∧((W:Int) != 4)=true∧((W:Int) != 8)=false):=by
    rcases h3 with e | e | e
    · subst e; exact Or.inl rfl
    · subst e; exact Or.inr (Or.inl ⟨rfl,rfl⟩)
    · subst e; exact Or.inr (Or.inr ⟨rfl,rfl,rfl⟩)
  have HS:Hid _:=fun i hi=>begin_bel p W C i H3.out hi
  have hlz:((p.size:Int) != 8 + (C:Int) * (W:Int))=false:=by rw [← Int.natCast_mul]; exact bne_eq_false_iff_eq.2 (by omega)
  have hri:=fun W'=>rises_any p W C H3.out hm hl W'
  rw [hr] at hri
  have HRI:Hid _:=hri
  clear hri hr
  unfold setV at *
  clear h3
  rcases hcase with n2 | ⟨n2,n4⟩ | ⟨n2,n4,n8⟩
  · go_enter Tryz.func379,Tryz.ntmps379
    go_wp2_with fail
    refine (HR.out _).mono ?_
    rintro e w1 ⟨rfl,hb1⟩
    have hz:w.heap.size < w1.heap.size:=by have:=hb1.size; simp at this; omega
    have hrow:w1.heap[w.heap.size]?=some (.cells #[.string ⟨#[]⟩,.int .i64 0,.int .i64 0] 507 (0,0)):=by rw [hb1.block _ (by simp)]; exact heap_last w _
    have k0:w1.cell? ⟨w.heap.size,0,none⟩=some (.string ⟨#[]⟩):=by rw [cell_of_row _ _ _ _ _ _ hrow]; rfl
    have k1:w1.cell? ⟨w.heap.size,1,none⟩=some (.int .i64 0):=by rw [cell_of_row _ _ _ _ _ _ hrow]; rfl
    have k2:w1.cell? ⟨w.heap.size,2,none⟩=some (.int .i64 0):=by rw [cell_of_row _ _ _ _ _ _ hrow]; rfl
    have f0:w1.frozen? ⟨w.heap.size,0,none⟩=false:=Lib.frozen_of_heap hrow 0
    have f1:w1.frozen? ⟨w.heap.size,1,none⟩=false:=Lib.frozen_of_heap hrow 1
    have f2:w1.frozen? ⟨w.heap.size,2,none⟩=false:=Lib.frozen_of_heap hrow 2
    have HB1:Hid (Below w.heap.size w w1):=((Below.refl _ w).alloc (Nat.le_refl _) _).trans (hb1.mono (by simp))
    have HROW:Hid _:=hrow
    clear hb1 hrow
    go_wp2_with fail
    refine (HS.out C (by omega) _).mono ?_
    rintro e w2 ⟨rfl,hb2⟩
    clear k0 k1 k2 f0 f1 f2
    have hz2:w.heap.size < w2.heap.size∧w1.heap.size < w2.heap.size:=by have:=hb2.size; simp at this; omega
    have hrow2:w2.heap[w.heap.size]?=some (.cells #[.string ⟨#[]⟩,.int .i64 0,.int .i64 0] 507 (0,0)):=by rw [hb2.block _ (by simp; omega),heap_alloc_old _ _ hz]; exact HROW.out
    have srow2:w2.heap[w1.heap.size]?=some (.cells #[.string p,.int .i64 (W:Int),.int .i64 (C:Int)] 507 (0,0)):=by rw [hb2.block _ (by simp)]; exact heap_last _ _
    have k0:w2.cell? ⟨w.heap.size,0,none⟩=some (.string ⟨#[]⟩):=by rw [cell_heap hrow2]; rfl
    have k1:w2.cell? ⟨w.heap.size,1,none⟩=some (.int .i64 0):=by rw [cell_heap hrow2]; rfl
    have k2:w2.cell? ⟨w.heap.size,2,none⟩=some (.int .i64 0):=by rw [cell_heap hrow2]; rfl
    have f0:w2.frozen? ⟨w.heap.size,0,none⟩=false:=Lib.frozen_of_heap hrow2 0
    have f1:w2.frozen? ⟨w.heap.size,1,none⟩=false:=Lib.frozen_of_heap hrow2 1
    have f2:w2.frozen? ⟨w.heap.size,2,none⟩=false:=Lib.frozen_of_heap hrow2 2
    have s0:w2.cell? ⟨w1.heap.size,0,none⟩=some (.string p):=by rw [cell_heap srow2]; rfl
    have s1:w2.cell? ⟨w1.heap.size,1,none⟩=some (.int .i64 (W:Int)):=by rw [cell_heap srow2]; rfl
    have s2:w2.cell? ⟨w1.heap.size,2,none⟩=some (.int .i64 (C:Int)):=by rw [cell_heap srow2]; rfl
    have HROW2:Hid _:=hrow2
    have SROW2:Hid _:=srow2
    clear hrow2 srow2
    have HB2:Hid (Below w.heap.size w w2):=(HB1.out.alloc (by omega) _).trans (hb2.mono (by simp; omega))
    clear hb2
    go_wp2_with fail
    refine (HRI.out _).mono ?_
    rintro e w3 ⟨rfl,hb3⟩
    clear k0 k1 k2 f0 f1 f2 s0 s1 s2
    have hz3:w.heap.size < w3.heap.size∧w1.heap.size < w3.heap.size:=by have:=hb3.size; omega
    have hrow3:w3.heap[w.heap.size]?=some (.cells #[.string ⟨#[]⟩,.int .i64 0,.int .i64 0] 507 (0,0)):=by rw [hb3.block _ hz2.1]; exact HROW2.out
    have srow3:w3.heap[w1.heap.size]?=some (.cells #[.string p,.int .i64 (W:Int),.int .i64 (C:Int)] 507 (0,0)):=by rw [hb3.block _ hz2.2]; exact SROW2.out
    have k0:w3.cell? ⟨w.heap.size,0,none⟩=some (.string ⟨#[]⟩):=by rw [cell_heap hrow3]; rfl
    have k1:w3.cell? ⟨w.heap.size,1,none⟩=some (.int .i64 0):=by rw [cell_heap hrow3]; rfl
    have k2:w3.cell? ⟨w.heap.size,2,none⟩=some (.int .i64 0):=by rw [cell_heap hrow3]; rfl
    have f0:w3.frozen? ⟨w.heap.size,0,none⟩=false:=Lib.frozen_of_heap hrow3 0
    have f1:w3.frozen? ⟨w.heap.size,1,none⟩=false:=Lib.frozen_of_heap hrow3 1
    have f2:w3.frozen? ⟨w.heap.size,2,none⟩=false:=Lib.frozen_of_heap hrow3 2
    have s0:w3.cell? ⟨w1.heap.size,0,none⟩=some (.string p):=by rw [cell_heap srow3]; rfl
    have s1:w3.cell? ⟨w1.heap.size,1,none⟩=some (.int .i64 (W:Int)):=by rw [cell_heap srow3]; rfl
    have s2:w3.cell? ⟨w1.heap.size,2,none⟩=some (.int .i64 (C:Int)):=by rw [cell_heap srow3]; rfl
    have HROW3:Hid _:=hrow3
    have SROW3:Hid _:=srow3
    clear hrow3 srow3
    have HB3:Hid (Below w.heap.size w w3):=HB2.out.trans (hb3.mono (by omega))
    clear hb3
    go_wp2
    refine bodyPost_ret (v:=.tuple #[.agg #[.string p,.int .i64 (W:Int),.int .i64 (C:Int)],.bool true]) (by simp [results,Tryz.results379,go_sem,(cells_sss0 HROW3.out (.string p) (.int .i64 (W:Int)) (.int .i64 (C:Int))).1,(cells_sss0 HROW3.out (.string p) (.int .i64 (W:Int)) (.int .i64 (C:Int))).2.1,(cells_sss0 HROW3.out (.string p) (.int .i64 (W:Int)) (.int .i64 (C:Int))).2.2]) rfl ⟨rfl,bel_sss0 HB3.out (Nat.le_refl _) _ _ _⟩
  · go_enter Tryz.func379,Tryz.ntmps379
    go_wp2_with fail
    refine (HR.out _).mono ?_
    rintro e w1 ⟨rfl,hb1⟩
    have hz:w.heap.size < w1.heap.size:=by have:=hb1.size; simp at this; omega
    have hrow:w1.heap[w.heap.size]?=some (.cells #[.string ⟨#[]⟩,.int .i64 0,.int .i64 0] 507 (0,0)):=by rw [hb1.block _ (by simp)]; exact heap_last w _
    have k0:w1.cell? ⟨w.heap.size,0,none⟩=some (.string ⟨#[]⟩):=by rw [cell_of_row _ _ _ _ _ _ hrow]; rfl
    have k1:w1.cell? ⟨w.heap.size,1,none⟩=some (.int .i64 0):=by rw [cell_of_row _ _ _ _ _ _ hrow]; rfl
    have k2:w1.cell? ⟨w.heap.size,2,none⟩=some (.int .i64 0):=by rw [cell_of_row _ _ _ _ _ _ hrow]; rfl
    have f0:w1.frozen? ⟨w.heap.size,0,none⟩=false:=Lib.frozen_of_heap hrow 0
    have f1:w1.frozen? ⟨w.heap.size,1,none⟩=false:=Lib.frozen_of_heap hrow 1
    have f2:w1.frozen? ⟨w.heap.size,2,none⟩=false:=Lib.frozen_of_heap hrow 2
    have HB1:Hid (Below w.heap.size w w1):=((Below.refl _ w).alloc (Nat.le_refl _) _).trans (hb1.mono (by simp))
    have HROW:Hid _:=hrow
    clear hb1 hrow
    go_wp2_with fail
    refine (HS.out C (by omega) _).mono ?_
    rintro e w2 ⟨rfl,hb2⟩
    clear k0 k1 k2 f0 f1 f2
    have hz2:w.heap.size < w2.heap.size∧w1.heap.size < w2.heap.size:=by have:=hb2.size; simp at this; omega
    have hrow2:w2.heap[w.heap.size]?=some (.cells #[.string ⟨#[]⟩,.int .i64 0,.int .i64 0] 507 (0,0)):=by rw [hb2.block _ (by simp; omega),heap_alloc_old _ _ hz]; exact HROW.out
    have srow2:w2.heap[w1.heap.size]?=some (.cells #[.string p,.int .i64 (W:Int),.int .i64 (C:Int)] 507 (0,0)):=by rw [hb2.block _ (by simp)]; exact heap_last _ _
    have k0:w2.cell? ⟨w.heap.size,0,none⟩=some (.string ⟨#[]⟩):=by rw [cell_heap hrow2]; rfl
    have k1:w2.cell? ⟨w.heap.size,1,none⟩=some (.int .i64 0):=by rw [cell_heap hrow2]; rfl
    have k2:w2.cell? ⟨w.heap.size,2,none⟩=some (.int .i64 0):=by rw [cell_heap hrow2]; rfl
    have f0:w2.frozen? ⟨w.heap.size,0,none⟩=false:=Lib.frozen_of_heap hrow2 0
    have f1:w2.frozen? ⟨w.heap.size,1,none⟩=false:=Lib.frozen_of_heap hrow2 1
    have f2:w2.frozen? ⟨w.heap.size,2,none⟩=false:=Lib.frozen_of_heap hrow2 2
    have s0:w2.cell? ⟨w1.heap.size,0,none⟩=some (.string p):=by rw [cell_heap srow2]; rfl
    have s1:w2.cell? ⟨w1.heap.size,1,none⟩=some (.int .i64 (W:Int)):=by rw [cell_heap srow2]; rfl
    have s2:w2.cell? ⟨w1.heap.size,2,none⟩=some (.int .i64 (C:Int)):=by rw [cell_heap srow2]; rfl
    have HROW2:Hid _:=hrow2
    have SROW2:Hid _:=srow2
    clear hrow2 srow2
    have HB2:Hid (Below w.heap.size w w2):=(HB1.out.alloc (by omega) _).trans (hb2.mono (by simp; omega))
    clear hb2
    go_wp2_with fail
    refine (HRI.out _).mono ?_
    rintro e w3 ⟨rfl,hb3⟩
    clear k0 k1 k2 f0 f1 f2 s0 s1 s2
    have hz3:w.heap.size < w3.heap.size∧w1.heap.size < w3.heap.size:=by have:=hb3.size; omega
    have hrow3:w3.heap[w.heap.size]?=some (.cells #[.string ⟨#[]⟩,.int .i64 0,.int .i64 0] 507 (0,0)):=by rw [hb3.block _ hz2.1]; exact HROW2.out
    have srow3:w3.heap[w1.heap.size]?=some (.cells #[.string p,.int .i64 (W:Int),.int .i64 (C:Int)] 507 (0,0)):=by rw [hb3.block _ hz2.2]; exact SROW2.out
    have k0:w3.cell? ⟨w.heap.size,0,none⟩=some (.string ⟨#[]⟩):=by rw [cell_heap hrow3]; rfl
    have k1:w3.cell? ⟨w.heap.size,1,none⟩=some (.int .i64 0):=by rw [cell_heap hrow3]; rfl
    have k2:w3.cell? ⟨w.heap.size,2,none⟩=some (.int .i64 0):=by rw [cell_heap hrow3]; rfl
    have f0:w3.frozen? ⟨w.heap.size,0,none⟩=false:=Lib.frozen_of_heap hrow3 0
    have f1:w3.frozen? ⟨w.heap.size,1,none⟩=false:=Lib.frozen_of_heap hrow3 1
    have f2:w3.frozen? ⟨w.heap.size,2,none⟩=false:=Lib.frozen_of_heap hrow3 2
    have s0:w3.cell? ⟨w1.heap.size,0,none⟩=some (.string p):=by rw [cell_heap srow3]; rfl
    have s1:w3.cell? ⟨w1.heap.size,1,none⟩=some (.int .i64 (W:Int)):=by rw [cell_heap srow3]; rfl
    have s2:w3.cell? ⟨w1.heap.size,2,none⟩=some (.int .i64 (C:Int)):=by rw [cell_heap srow3]; rfl
    have HROW3:Hid _:=hrow3
    have SROW3:Hid _:=srow3
    clear hrow3 srow3
    have HB3:Hid (Below w.heap.size w w3):=HB2.out.trans (hb3.mono (by omega))
    clear hb3
    go_wp2
    refine bodyPost_ret (v:=.tuple #[.agg #[.string p,.int .i64 (W:Int),.int .i64 (C:Int)],.bool true]) (by simp [results,Tryz.results379,go_sem,(cells_sss0 HROW3.out (.string p) (.int .i64 (W:Int)) (.int .i64 (C:Int))).1,(cells_sss0 HROW3.out (.string p) (.int .i64 (W:Int)) (.int .i64 (C:Int))).2.1,(cells_sss0 HROW3.out (.string p) (.int .i64 (W:Int)) (.int .i64 (C:Int))).2.2]) rfl ⟨rfl,bel_sss0 HB3.out (Nat.le_refl _) _ _ _⟩
  · go_enter Tryz.func379,Tryz.ntmps379
    go_wp2_with fail
    refine (HR.out _).mono ?_
    rintro e w1 ⟨rfl,hb1⟩
    have hz:w.heap.size < w1.heap.size:=by have:=hb1.size; simp at this; omega
    have hrow:w1.heap[w.heap.size]?=some (.cells #[.string ⟨#[]⟩,.int .i64 0,.int .i64 0] 507 (0,0)):=by rw [hb1.block _ (by simp)]; exact heap_last w _
    have k0:w1.cell? ⟨w.heap.size,0,none⟩=some (.string ⟨#[]⟩):=by rw [cell_of_row _ _ _ _ _ _ hrow]; rfl
    have k1:w1.cell? ⟨w.heap.size,1,none⟩=some (.int .i64 0):=by rw [cell_of_row _ _ _ _ _ _ hrow]; rfl
    have k2:w1.cell? ⟨w.heap.size,2,none⟩=some (.int .i64 0):=by rw [cell_of_row _ _ _ _ _ _ hrow]; rfl
    have f0:w1.frozen? ⟨w.heap.size,0,none⟩=false:=Lib.frozen_of_heap hrow 0
    have f1:w1.frozen? ⟨w.heap.size,1,none⟩=false:=Lib.frozen_of_heap hrow 1
    have f2:w1.frozen? ⟨w.heap.size,2,none⟩=false:=Lib.frozen_of_heap hrow 2
    have HB1:Hid (Below w.heap.size w w1):=((Below.refl _ w).alloc (Nat.le_refl _) _).trans (hb1.mono (by simp))
    have HROW:Hid _:=hrow
    clear hb1 hrow
    go_wp2_with fail
    refine (HS.out C (by omega) _).mono ?_
    rintro e w2 ⟨rfl,hb2⟩
    clear k0 k1 k2 f0 f1 f2
    have hz2:w.heap.size < w2.heap.size∧w1.heap.size < w2.heap.size:=by have:=hb2.size; simp at this; omega
    have hrow2:w2.heap[w.heap.size]?=some (.cells #[.string ⟨#[]⟩,.int .i64 0,.int .i64 0] 507 (0,0)):=by rw [hb2.block _ (by simp; omega),heap_alloc_old _ _ hz]; exact HROW.out
    have srow2:w2.heap[w1.heap.size]?=some (.cells #[.string p,.int .i64 (W:Int),.int .i64 (C:Int)] 507 (0,0)):=by rw [hb2.block _ (by simp)]; exact heap_last _ _
    have k0:w2.cell? ⟨w.heap.size,0,none⟩=some (.string ⟨#[]⟩):=by rw [cell_heap hrow2]; rfl
    have k1:w2.cell? ⟨w.heap.size,1,none⟩=some (.int .i64 0):=by rw [cell_heap hrow2]; rfl
    have k2:w2.cell? ⟨w.heap.size,2,none⟩=some (.int .i64 0):=by rw [cell_heap hrow2]; rfl
    have f0:w2.frozen? ⟨w.heap.size,0,none⟩=false:=Lib.frozen_of_heap hrow2 0
    have f1:w2.frozen? ⟨w.heap.size,1,none⟩=false:=Lib.frozen_of_heap hrow2 1
    have f2:w2.frozen? ⟨w.heap.size,2,none⟩=false:=Lib.frozen_of_heap hrow2 2
    have s0:w2.cell? ⟨w1.heap.size,0,none⟩=some (.string p):=by rw [cell_heap srow2]; rfl
    have s1:w2.cell? ⟨w1.heap.size,1,none⟩=some (.int .i64 (W:Int)):=by rw [cell_heap srow2]; rfl
    have s2:w2.cell? ⟨w1.heap.size,2,none⟩=some (.int .i64 (C:Int)):=by rw [cell_heap srow2]; rfl
    have HROW2:Hid _:=hrow2
    have SROW2:Hid _:=srow2
    clear hrow2 srow2
    have HB2:Hid (Below w.heap.size w w2):=(HB1.out.alloc (by omega) _).trans (hb2.mono (by simp; omega))
    clear hb2
    go_wp2_with fail
    refine (HRI.out _).mono ?_
    rintro e w3 ⟨rfl,hb3⟩
    clear k0 k1 k2 f0 f1 f2 s0 s1 s2
    have hz3:w.heap.size < w3.heap.size∧w1.heap.size < w3.heap.size:=by have:=hb3.size; omega
    have hrow3:w3.heap[w.heap.size]?=some (.cells #[.string ⟨#[]⟩,.int .i64 0,.int .i64 0] 507 (0,0)):=by rw [hb3.block _ hz2.1]; exact HROW2.out
    have srow3:w3.heap[w1.heap.size]?=some (.cells #[.string p,.int .i64 (W:Int),.int .i64 (C:Int)] 507 (0,0)):=by rw [hb3.block _ hz2.2]; exact SROW2.out
    have k0:w3.cell? ⟨w.heap.size,0,none⟩=some (.string ⟨#[]⟩):=by rw [cell_heap hrow3]; rfl
    have k1:w3.cell? ⟨w.heap.size,1,none⟩=some (.int .i64 0):=by rw [cell_heap hrow3]; rfl
    have k2:w3.cell? ⟨w.heap.size,2,none⟩=some (.int .i64 0):=by rw [cell_heap hrow3]; rfl
    have f0:w3.frozen? ⟨w.heap.size,0,none⟩=false:=Lib.frozen_of_heap hrow3 0
    have f1:w3.frozen? ⟨w.heap.size,1,none⟩=false:=Lib.frozen_of_heap hrow3 1
    have f2:w3.frozen? ⟨w.heap.size,2,none⟩=false:=Lib.frozen_of_heap hrow3 2
    have s0:w3.cell? ⟨w1.heap.size,0,none⟩=some (.string p):=by rw [cell_heap srow3]; rfl
    have s1:w3.cell? ⟨w1.heap.size,1,none⟩=some (.int .i64 (W:Int)):=by rw [cell_heap srow3]; rfl
    have s2:w3.cell? ⟨w1.heap.size,2,none⟩=some (.int .i64 (C:Int)):=by rw [cell_heap srow3]; rfl
    have HROW3:Hid _:=hrow3
    have SROW3:Hid _:=srow3
    clear hrow3 srow3
    have HB3:Hid (Below w.heap.size w w3):=HB2.out.trans (hb3.mono (by omega))
    clear hb3
    go_wp2
    refine bodyPost_ret (v:=.tuple #[.agg #[.string p,.int .i64 (W:Int),.int .i64 (C:Int)],.bool true]) (by simp [results,Tryz.results379,go_sem,(cells_sss0 HROW3.out (.string p) (.int .i64 (W:Int)) (.int .i64 (C:Int))).1,(cells_sss0 HROW3.out (.string p) (.int .i64 (W:Int)) (.int .i64 (C:Int))).2.1,(cells_sss0 HROW3.out (.string p) (.int .i64 (W:Int)) (.int .i64 (C:Int))).2.2]) rfl ⟨rfl,bel_sss0 HB3.out (Nat.le_refl _) _ _ _⟩
end Go.Proofs.YtiefeeoellagnaaGreatDoor.S5
namespace Go.Proofs.YtiefeeoellagnaaGreatDoor.S5
open Go.RowKit IM
set_option linter.unusedVariables false
end Go.Proofs.YtiefeeoellagnaaGreatDoor.S5
