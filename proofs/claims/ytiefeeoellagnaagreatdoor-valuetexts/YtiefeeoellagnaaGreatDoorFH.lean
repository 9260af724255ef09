import Derived.Test.YtiefeeoellagnaaGreatDoorAB
import Derived.Test.YtiefeeoellagnaaGreatDoorFG
import Derived.Test.YtiefeeoellagnaaGreatDoorFC
namespace Go.Proofs.YtiefeeoellagnaaGreatDoor.S5
open Go.RowKit IM
set_option linter.unusedVariables false
theorem maker_keep {B b:Nat} {W:Int} {l:List UInt8} {w w':World} (h:MakerAt B b W l w) (hb:Below w.heap.size w w'):MakerAt B b W l w':=by
  obtain ⟨h0,v,h1,h2,h3⟩:=h
  exact ⟨h0,v,by rw [hb.block _ (row_lt h1)]; exact h1,own_keep h2 (fun k _ hk=>hb.block k hk),h3⟩
theorem take_leB (W:Nat) (x:Int) (h3:W3 W):(leB 8 x).take W=leB W x:=by
  rcases h3 with rfl | rfl | rfl <;> rfl
end Go.Proofs.YtiefeeoellagnaaGreatDoor.S5
namespace Go.Proofs.YtiefeeoellagnaaGreatDoor.S5
open Go.RowKit IM
set_option linter.unusedVariables false
theorem head_bytes (V C:Nat) (hV:V < 4294967296) (hC:C < 4294967296):leB 8 ((V + 4294967296 * C:Nat):Int)=leB 4 (V:Nat) ++ leB 4 (C:Nat):=by
  refine leN_inj _ _ (by rw [List.length_append,leB_len,leB_len,leB_len]) ?_
  rw [leN_app,leB_len]
  have e4:(256:Nat) ^ 4=4294967296:=by decide
  have e8:(256:Nat) ^ 8=18446744073709551616:=by decide
  rw [leB_nat 8 _ (by rw [e8]; omega),leB_nat 4 V (by rw [e4]; exact hV),leB_nat 4 C (by rw [e4]; exact hC),e4]
theorem or_head (V C:Nat) (hV:V < 4294967296) (hC:C < 4294967296):bits .or .u64 (V:Int) ((C:Int) * 4294967296)=((V + 4294967296 * C:Nat):Int):=by
  have e1:(C:Int) * 4294967296=((C * 2 ^ 32:Nat):Int):=by
    rw [show (2:Nat) ^ 32=4294967296 from rfl]; omega
  rw [e1,bits_or_u64_nat _ _ (by omega) (by rw [show (2:Nat) ^ 32=4294967296 from rfl]; omega)]
  have h2:=Nat.two_pow_add_eq_or_of_lt (i:=32) (b:=V) (by rw [show (2:Nat) ^ 32=4294967296 from rfl]; exact hV) C
  rw [Nat.or_comm,Nat.mul_comm C,← h2,show (2:Nat) ^ 32=4294967296 from rfl]
  omega
set_option maxHeartbeats 400000 in
set_option maxRecDepth 100000 in
theorem newMaker_any (V C:Nat) (h3:W3 V) (hC:C ≤ 1048576) (w:World) :
    Calls Tryz.prog 134 #[.int .i64 V,.int .i64 C] w fun e w'=>e=.returned (.pointer (some ⟨w.heap.size,0,none⟩))∧MakerAt w.heap.size w.heap.size V (leB 4 (V:Nat) ++ leB 4 (C:Nat)) w'∧Below w.heap.size w w':=by
  have hV8:V ≤ 8:=by rcases h3 with rfl | rfl | rfl <;> omega
  have hCV:C * V ≤ 1048576 * 8:=Nat.mul_le_mul hC hV8
  have ho:=or_head V C (by omega) (by omega)
  have hwz:=fun W'=>wordOf_any ((V + 4294967296 * C:Nat):Int) (by omega) (by omega) W'
  rw [head_bytes V C (by omega) (by omega)] at hwz
  generalize hL:leB 4 (V:Nat) ++ leB 4 (C:Nat)=L at *
  have hl8:L.length=8:=by rw [← hL,List.length_append,leB_len,leB_len]
  obtain ⟨a0,a1,a2,a3,a4,a5,a6,a7,rfl⟩:∃ a0 a1 a2 a3 a4 a5 a6 a7,L=[a0,a1,a2,a3,a4,a5,a6,a7]:=by
    match L,hl8 with
    | [a0,a1,a2,a3,a4,a5,a6,a7],_=>exact ⟨_,_,_,_,_,_,_,_,rfl⟩
  generalize hX:V + 4294967296 * C=X at *
  have HWZ:Hid (∀ W',Calls Tryz.prog 196 #[.int .u64 (X:Int)] W' fun e w'=>e=.returned (.agg (bcells [a0,a1,a2,a3,a4,a5,a6,a7]).toArray)∧Below W'.heap.size W' w'):=hwz
  simp only [bcells,List.map_cons,List.map_nil] at HWZ
  have hGr:=Grow_fresh w.heap.size w.heap.size (8 + C * V) V (w.alloc (.cells #[.pointer none,.slice none 0 0,.int .i64 (V:Int)] 222)) (Nat.le_refl _) (heap_last _ _) (by simp) (by omega) (by omega)
  have hcast:((8 + C * V:Nat):Int)=8 + (C:Int) * (V:Int):=by rw [← Int.natCast_mul]; omega
  rw [hcast] at hGr
  have HGR:Hid (Calls Tryz.prog 195 #[.pointer (some ⟨w.heap.size,0,none⟩),.int .i64 (8 + (C:Int) * (V:Int))] (w.alloc (.cells #[.pointer none,.slice none 0 0,.int .i64 (V:Int)] 222)) fun e w'=>e=.returned (.tuple #[])∧(MakerAt w.heap.size w.heap.size V [] w'∧Below w.heap.size (w.alloc (.cells #[.pointer none,.slice none 0 0,.int .i64 (V:Int)] 222)) w')):=hGr
  have hm1:(C:Int) * (V:Int)=((C * V:Nat):Int):=by simp
  have HO:Hid (bits .or .u64 (V:Int) ((C:Int) * 4294967296)=(X:Int)):=ho
  clear hwz hGr hcast hL hl8 hX ho
  rcases h3 with rfl | rfl | rfl
  · have ho2:bits .or .u64 2 ((C:Int) * 4294967296)=(X:Int):=HO.out
    go_enter Tryz.func134,Tryz.ntmps134
    go_wp2_with fail
    refine HGR.out.mono ?_
    rintro e w1 ⟨rfl,hmk,hb1⟩
    have HM1:Hid (MakerAt w.heap.size w.heap.size (2:Nat) [] w1):=hmk
    have HB1:Hid (Below w.heap.size w w1):=((Below.refl _ w).alloc (Nat.le_refl _) _).trans hb1
    clear hmk hb1
    go_wp2_with fail
    refine (HWZ.out _).mono ?_
    rintro e w2 ⟨rfl,hb2⟩
    have HM2:Hid (MakerAt w.heap.size w.heap.size (2:Nat) [] w2):=maker_keep HM1.out hb2
    have HB2:Hid (Below w.heap.size w w2):=HB1.out.trans (hb2.mono HB1.out.size)
    clear hb2
    obtain ⟨W1,hW1⟩:∃ W1,W1=w2.alloc (.cells #[.int .u8 (a0.toNat:Int),.int .u8 (a1.toNat:Int),.int .u8 (a2.toNat:Int),.int .u8 (a3.toNat:Int),.int .u8 (a4.toNat:Int),.int .u8 (a5.toNat:Int),.int .u8 (a6.toNat:Int),.int .u8 (a7.toNat:Int)] 300):=⟨_,rfl⟩
    have hbW:Below w2.heap.size w2 W1:=by rw [hW1]; exact (Below.refl _ w2).alloc (Nat.le_refl _) _
    have hrow:W1.heap[w2.heap.size]?=some (.cells #[.int .u8 (a0.toNat:Int),.int .u8 (a1.toNat:Int),.int .u8 (a2.toNat:Int),.int .u8 (a3.toNat:Int),.int .u8 (a4.toNat:Int),.int .u8 (a5.toNat:Int),.int .u8 (a6.toNat:Int),.int .u8 (a7.toNat:Int)] 300 (0,0)):=by rw [hW1]; exact heap_last _ _
    have hBW:Below w.heap.size w W1:=HB2.out.trans (hbW.mono HB2.out.size)
    have HBW:Hid (Below w.heap.size w W1):=hBW
    have HMW:Hid (MakerAt w.heap.size w.heap.size (2:Nat) [] W1):=maker_keep HM2.out hbW
    have HCW:Hid (∀ j,(hj:j < [a0,a1,a2,a3,a4,a5,a6,a7].length) → W1.cell? ⟨w2.heap.size,j,none⟩=some (.int .u8 ([a0,a1,a2,a3,a4,a5,a6,a7][j].toNat:Int))):=by
      have hx:∀ j,(hj:j < [a0,a1,a2,a3,a4,a5,a6,a7].length) → W1.cell? ⟨w2.heap.size,j,none⟩=some (.int .u8 ([a0,a1,a2,a3,a4,a5,a6,a7][j].toNat:Int)):=by
        intro j hj
        rw [cell_heap hrow]
        match j,hj with
        | 0,_=>rfl
        | 1,_=>rfl
        | 2,_=>rfl
        | 3,_=>rfl
        | 4,_=>rfl
        | 5,_=>rfl
        | 6,_=>rfl
        | 7,_=>rfl
      exact hx
    have hWs:W1.shape? w2.heap.size=some (300,8):=by simp [World.shape?,hrow]
    clear hbW hrow hBW
    have HWR:Hid (Calls Tryz.prog 197 #[.pointer (some ⟨w.heap.size,0,none⟩),.slice (some ⟨w2.heap.size,0,none⟩) 8 8] W1.drew fun e w'=>e=.returned (.tuple #[.int .i64 8,.nilIface])∧(MakerAt w.heap.size w.heap.size (2:Nat) [a0,a1,a2,a3,a4,a5,a6,a7] w'∧Below w.heap.size W1.drew w'∧Kept w.heap.size W1.drew w')):=write_any w.heap.size w.heap.size (2:Nat) [] w2.heap.size 8 [a0,a1,a2,a3,a4,a5,a6,a7] W1.drew HMW.out (by simp) HBW.out.size HCW.out
    go_wp2_with fail
    rw [← hW1]
    clear hW1
    go_region_with (go_at_call 197; refine HWR.out.mono ?_; rintro e w' ⟨rfl,hm,hb,hk⟩)
    all_goals have HMZ:Hid (MakerAt w.heap.size w.heap.size (2:Nat) [a0,a1,a2,a3,a4,a5,a6,a7] w'):=hm
    all_goals have HBZ:Hid (Below w.heap.size w w'):=(Below.drew HBW.out).trans hb
    all_goals clear hm hb hk
    all_goals go_wp2
    all_goals go_ret
    all_goals exact ⟨rfl,HMZ.out,HBZ.out⟩
  · have ho2:bits .or .u64 4 ((C:Int) * 4294967296)=(X:Int):=HO.out
    go_enter Tryz.func134,Tryz.ntmps134
    go_wp2_with fail
    refine HGR.out.mono ?_
    rintro e w1 ⟨rfl,hmk,hb1⟩
    have HM1:Hid (MakerAt w.heap.size w.heap.size (4:Nat) [] w1):=hmk
    have HB1:Hid (Below w.heap.size w w1):=((Below.refl _ w).alloc (Nat.le_refl _) _).trans hb1
    clear hmk hb1
    go_wp2_with fail
    refine (HWZ.out _).mono ?_
    rintro e w2 ⟨rfl,hb2⟩
    have HM2:Hid (MakerAt w.heap.size w.heap.size (4:Nat) [] w2):=maker_keep HM1.out hb2
    have HB2:Hid (Below w.heap.size w w2):=HB1.out.trans (hb2.mono HB1.out.size)
    clear hb2
    obtain ⟨W1,hW1⟩:∃ W1,W1=w2.alloc (.cells #[.int .u8 (a0.toNat:Int),.int .u8 (a1.toNat:Int),.int .u8 (a2.toNat:Int),.int .u8 (a3.toNat:Int),.int .u8 (a4.toNat:Int),.int .u8 (a5.toNat:Int),.int .u8 (a6.toNat:Int),.int .u8 (a7.toNat:Int)] 300):=⟨_,rfl⟩
    have hbW:Below w2.heap.size w2 W1:=by rw [hW1]; exact (Below.refl _ w2).alloc (Nat.le_refl _) _
    have hrow:W1.heap[w2.heap.size]?=some (.cells #[.int .u8 (a0.toNat:Int),.int .u8 (a1.toNat:Int),.int .u8 (a2.toNat:Int),.int .u8 (a3.toNat:Int),.int .u8 (a4.toNat:Int),.int .u8 (a5.toNat:Int),.int .u8 (a6.toNat:Int),.int .u8 (a7.toNat:Int)] 300 (0,0)):=by rw [hW1]; exact heap_last _ _
    have hBW:Below w.heap.size w W1:=HB2.out.trans (hbW.mono HB2.out.size)
    have HBW:Hid (Below w.heap.size w W1):=hBW
    have HMW:Hid (MakerAt w.heap.size w.heap.size (4:Nat) [] W1):=maker_keep HM2.out hbW
    have HCW:Hid (∀ j,(hj:j < [a0,a1,a2,a3,a4,a5,a6,a7].length) → W1.cell? ⟨w2.heap.size,j,none⟩=some (.int .u8 ([a0,a1,a2,a3,a4,a5,a6,a7][j].toNat:Int))):=by
      have hx:∀ j,(hj:j < [a0,a1,a2,a3,a4,a5,a6,a7].length) → W1.cell? ⟨w2.heap.size,j,none⟩=some (.int .u8 ([a0,a1,a2,a3,a4,a5,a6,a7][j].toNat:Int)):=by
        intro j hj
        rw [cell_heap hrow]
        match j,hj with
        | 0,_=>rfl
        | 1,_=>rfl
        | 2,_=>rfl
        | 3,_=>rfl
        | 4,_=>rfl
        | 5,_=>rfl
        | 6,_=>rfl
        | 7,_=>rfl
      exact hx
    have hWs:W1.shape? w2.heap.size=some (300,8):=by simp [World.shape?,hrow]
    clear hbW hrow hBW
    have HWR:Hid (Calls Tryz.prog 197 #[.pointer (some ⟨w.heap.size,0,none⟩),.slice (some ⟨w2.heap.size,0,none⟩) 8 8] W1.drew fun e w'=>e=.returned (.tuple #[.int .i64 8,.nilIface])∧(MakerAt w.heap.size w.heap.size (4:Nat) [a0,a1,a2,a3,a4,a5,a6,a7] w'∧Below w.heap.size W1.drew w'∧Kept w.heap.size W1.drew w')):=write_any w.heap.size w.heap.size (4:Nat) [] w2.heap.size 8 [a0,a1,a2,a3,a4,a5,a6,a7] W1.drew HMW.out (by simp) HBW.out.size HCW.out
    go_wp2_with fail
    rw [← hW1]
    clear hW1
    go_region_with (go_at_call 197; refine HWR.out.mono ?_; rintro e w' ⟨rfl,hm,hb,hk⟩)
    all_goals have HMZ:Hid (MakerAt w.heap.size w.heap.size (4:Nat) [a0,a1,a2,a3,a4,a5,a6,a7] w'):=hm
    all_goals have HBZ:Hid (Below w.heap.size w w'):=(Below.drew HBW.out).trans hb
    all_goals clear hm hb hk
    all_goals go_wp2
    all_goals go_ret
    all_goals exact ⟨rfl,HMZ.out,HBZ.out⟩
  · have ho2:bits .or .u64 8 ((C:Int) * 4294967296)=(X:Int):=HO.out
    go_enter Tryz.func134,Tryz.ntmps134
    go_wp2_with fail
    refine HGR.out.mono ?_
    rintro e w1 ⟨rfl,hmk,hb1⟩
    have HM1:Hid (MakerAt w.heap.size w.heap.size (8:Nat) [] w1):=hmk
    have HB1:Hid (Below w.heap.size w w1):=((Below.refl _ w).alloc (Nat.le_refl _) _).trans hb1
    clear hmk hb1
    go_wp2_with fail
    refine (HWZ.out _).mono ?_
    rintro e w2 ⟨rfl,hb2⟩
    have HM2:Hid (MakerAt w.heap.size w.heap.size (8:Nat) [] w2):=maker_keep HM1.out hb2
    have HB2:Hid (Below w.heap.size w w2):=HB1.out.trans (hb2.mono HB1.out.size)
    clear hb2
    obtain ⟨W1,hW1⟩:∃ W1,W1=w2.alloc (.cells #[.int .u8 (a0.toNat:Int),.int .u8 (a1.toNat:Int),.int .u8 (a2.toNat:Int),.int .u8 (a3.toNat:Int),.int .u8 (a4.toNat:Int),.int .u8 (a5.toNat:Int),.int .u8 (a6.toNat:Int),.int .u8 (a7.toNat:Int)] 300):=⟨_,rfl⟩
    have hbW:Below w2.heap.size w2 W1:=by rw [hW1]; exact (Below.refl _ w2).alloc (Nat.le_refl _) _
    have hrow:W1.heap[w2.heap.size]?=some (.cells #[.int .u8 (a0.toNat:Int),.int .u8 (a1.toNat:Int),.int .u8 (a2.toNat:Int),.int .u8 (a3.toNat:Int),.int .u8 (a4.toNat:Int),.int .u8 (a5.toNat:Int),.int .u8 (a6.toNat:Int),.int .u8 (a7.toNat:Int)] 300 (0,0)):=by rw [hW1]; exact heap_last _ _
    have hBW:Below w.heap.size w W1:=HB2.out.trans (hbW.mono HB2.out.size)
    have HBW:Hid (Below w.heap.size w W1):=hBW
    have HMW:Hid (MakerAt w.heap.size w.heap.size (8:Nat) [] W1):=maker_keep HM2.out hbW
    have HCW:Hid (∀ j,(hj:j < [a0,a1,a2,a3,a4,a5,a6,a7].length) → W1.cell? ⟨w2.heap.size,j,none⟩=some (.int .u8 ([a0,a1,a2,a3,a4,a5,a6,a7][j].toNat:Int))):=by
      have hx:∀ j,(hj:j < [a0,a1,a2,a3,a4,a5,a6,a7].length) → W1.cell? ⟨w2.heap.size,j,none⟩=some (.int .u8 ([a0,a1,a2,a3,a4,a5,a6,a7][j].toNat:Int)):=by
        intro j hj
        rw [cell_heap hrow]
        match j,hj with
        | 0,_=>rfl
        | 1,_=>rfl
        | 2,_=>rfl
        | 3,_=>rfl
        | 4,_=>rfl
        | 5,_=>rfl
        | 6,_=>rfl
        | 7,_=>rfl
      exact hx
    have hWs:W1.shape? w2.heap.size=some (300,8):=by simp [World.shape?,hrow]
    clear hbW hrow hBW
    have HWR:Hid (Calls Tryz.prog 197 #[.pointer (some ⟨w.heap.size,0,none⟩),.slice (some ⟨w2.heap.size,0,none⟩) 8 8] W1.drew fun e w'=>e=.returned (.tuple #[.int .i64 8,.nilIface])∧(MakerAt w.heap.size w.heap.size (8:Nat) [a0,a1,a2,a3,a4,a5,a6,a7] w'∧Below w.heap.size W1.drew w'∧Kept w.heap.size W1.drew w')):=write_any w.heap.size w.heap.size (8:Nat) [] w2.heap.size 8 [a0,a1,a2,a3,a4,a5,a6,a7] W1.drew HMW.out (by simp) HBW.out.size HCW.out
    go_wp2_with fail
    rw [← hW1]
    clear hW1
    go_region_with (go_at_call 197; refine HWR.out.mono ?_; rintro e w' ⟨rfl,hm,hb,hk⟩)
    all_goals have HMZ:Hid (MakerAt w.heap.size w.heap.size (8:Nat) [a0,a1,a2,a3,a4,a5,a6,a7] w'):=hm
    all_goals have HBZ:Hid (Below w.heap.size w w'):=(Below.drew HBW.out).trans hb
    all_goals clear hm hb hk
    all_goals go_wp2
    all_goals go_ret
    all_goals exact ⟨rfl,HMZ.out,HBZ.out⟩
end Go.Proofs.YtiefeeoellagnaaGreatDoor.S5
namespace Go.Proofs.YtiefeeoellagnaaGreatDoor.S5
open Go.RowKit IM
set_option linter.unusedVariables false
def bigS (p:ByteArray):Prop:=p.size ≤ 9223372036854775807
set_option maxHeartbeats 400000 in
set_option maxRecDepth 100000 in
theorem new_any (w:World) :
    Calls Tryz.prog 64 #[] w fun e w'=>e=.returned (.string (strB (txt 2 [])))∧Below w.heap.size w w':=by
  have hnm:=newMaker_any 2 0 (Or.inl rfl) (by omega) w
  rw [show ((2:Nat):Int)=2 from rfl,show ((0:Nat):Int)=0 from rfl] at hnm
  have HNM:Hid (Calls Tryz.prog 134 #[.int .i64 2,.int .i64 0] w fun e w'=>e=.returned (.pointer (some ⟨w.heap.size,0,none⟩))∧MakerAt w.heap.size w.heap.size 2 (txt 2 []) w'∧Below w.heap.size w w'):=hnm
  clear hnm
  go_enter Tryz.func64,Tryz.ntmps64
  go_wp2_with fail
  refine HNM.out.mono ?_
  rintro e w1 ⟨rfl,hm,hb⟩
  have HM:Hid (MakerAt w.heap.size w.heap.size 2 (txt 2 []) w1):=hm
  have HB:Hid (Below w.heap.size w w1):=hb
  clear hm hb
  go_wp2_with fail
  refine (string_any w.heap.size w.heap.size 2 (txt 2 []) w1 HM.out (by decide)).mono ?_
  rintro e w2 ⟨rfl,hb2⟩
  have HB2:Hid (Below w.heap.size w w2):=HB.out.trans hb2
  clear hb2
  go_wp2
  go_ret
  exact ⟨rfl,HB2.out⟩
end Go.Proofs.YtiefeeoellagnaaGreatDoor.S5
namespace Go.Proofs.YtiefeeoellagnaaGreatDoor.S5
open Go.RowKit IM
set_option linter.unusedVariables false
set_option maxHeartbeats 400000 in
set_option maxRecDepth 100000 in
theorem all_setP (p:ByteArray) (W:Nat) (l:List Int) (h:IsSet p.data.toList W l) (w:World) :
    Calls Tryz.prog 349 #[.string p] w fun e w'=>∃ g,e=.returned (.tuple #[.slice (some ⟨g,0,none⟩) l.length l.length,.int .i64 0])∧(∀ j,(hj:j < l.length) → w'.cell? ⟨g,j,none⟩=some (.int .i64 l[j]))∧Below w.heap.size w w':=by
  have HP:Hid (∀ w,Calls Tryz.prog 379 #[.string p] w fun e w'=>e=.returned (.tuple #[setV p W l.length,.bool true])∧Below w.heap.size w w'):=fun w=>parse_set p W l h w
  have hlen:=h.len
  have HA:Hid (∀ k,(hk:k < l.length) → ∀ W',Calls Tryz.prog 380 #[setV p W l.length,.int .i64 k] W' fun e w'=>e=.returned (.int .i64 l[k])∧Below W'.heap.size W' w'):=fun k hk W'=>by
    have hs:=set_size h
    have:l.length * W ≤ 1048576 * 8:=Nat.mul_le_mul h.len (by rcases h.w3 with rfl | rfl | rfl <;> omega)
    rw [← h.at k hk]; exact at_any p W _ k h.w3 (place_le hk hs) (by omega) W'
  clear h
  have hmk:=run_make_row' (P:=Tryz.prog) 35 3 (.int .i64 0) 8 Tryz.underlying35 info3 rfl .i64 .i64 l.length (by omega) (by omega)
  unfold setV at *
  go_enter Tryz.func349,Tryz.ntmps349
  go_wp2_with fail
  refine (HP.out _).mono ?_
  rintro e w1 ⟨rfl,hb⟩
  have HB:Hid (Below w.heap.size w w1):=hb
  have hz:=hb.size
  clear hb
  obtain ⟨W1,hW1⟩:∃ W1,W1=(w1.alloc (.cells #[.string p,.int .i64 (W:Int),.int .i64 (l.length:Int)] 507)).alloc (.cells (madeCells #[.int .i64 0] l.length) 3):=⟨_,rfl⟩
  have hr1:W1.heap[w1.heap.size]?=some (.cells #[.string p,.int .i64 (W:Int),.int .i64 (l.length:Int)] 507 (0,0)):=by rw [hW1,heap_alloc_old _ _ (by simp)]; exact heap_last _ _
  have hr2:W1.heap[w1.heap.size + 1]?=some (.cells (madeCells #[.int .i64 0] l.length) 3 (0,0)):=by
    rw [hW1]
    have:=heap_last (w1.alloc (.cells #[.string p,.int .i64 (W:Int),.int .i64 (l.length:Int)] 507)) (.cells (madeCells #[.int .i64 0] l.length) 3)
    rw [World.size_alloc] at this
    exact this
  have HBW:Hid (Below w.heap.size w W1):=by rw [hW1]; exact ((HB.out.alloc hz _).alloc (by simp; omega) _)
  have HR1:Hid (W1.heap[w1.heap.size]?=some (.cells #[.string p,.int .i64 (W:Int),.int .i64 (l.length:Int)] 507 (0,0))):=hr1
  have HR2:Hid (W1.heap[w1.heap.size + 1]?=some (.cells (madeCells #[.int .i64 0] l.length) 3 (0,0))):=hr2
  clear hr1 hr2
  go_wp2
  rw [← hW1]
  clear hW1
  go_loopw [7,20] (fun ii cc wr=>∃ (k:Nat) (cur:Array Value),k ≤ l.length∧cc=.int .i64 k∧cur.size=l.length∧(∀ j,(hj:j < l.length) → j < k → cur[j]?=some (.int .i64 l[j]))∧wr.heap[w1.heap.size + 1]?=some (.cells cur 3 (0,0))∧wr.heap[w1.heap.size]?=some (.cells #[.string p,.int .i64 (W:Int),.int .i64 (l.length:Int)] 507 (0,0))∧Below w.heap.size w wr) (fun _ cc _=>l.length - (intOf cc).toNat)
  case atStart=>exact ⟨0,_,by omega,rfl,size_madeCells _ _,by intro j hj h; omega,HR2.out,HR1.out,HBW.out⟩
  case round =>
    obtain ⟨k,cur,hk,rfl,hcs,hcur,hrow,hsr,hbel⟩:=hrel
    have t0:wr.cell? ⟨w1.heap.size,0,none⟩=some (.string p):=by rw [cell_heap hsr]; rfl
    have t1:wr.cell? ⟨w1.heap.size,1,none⟩=some (.int .i64 (W:Int)):=by rw [cell_heap hsr]; rfl
    have t2:wr.cell? ⟨w1.heap.size,2,none⟩=some (.int .i64 (l.length:Int)):=by rw [cell_heap hsr]; rfl
    have HCUR:Hid (∀ j,(hj:j < l.length) → j < k → cur[j]?=some (.int .i64 l[j])):=hcur
    have HROW:Hid (wr.heap[w1.heap.size + 1]?=some (.cells cur 3 (0,0))):=hrow
    have HSR:Hid (wr.heap[w1.heap.size]?=some (.cells #[.string p,.int .i64 (W:Int),.int .i64 (l.length:Int)] 507 (0,0))):=hsr
    have HBL:Hid (Below w.heap.size w wr):=hbel
    clear hcur hrow hsr hbel
    by_cases hlt:k < l.length
    · have hat:=HA.out k hlt
      have HN:Hid (∀ x,x=l[k] → l[k]=x):=fun x e=>e.symm
      generalize hnn:l[k]=n at hat HN
      have HNN:Hid (l[k]=n):=hnn
      have HAT:Hid (∀ W',Calls Tryz.prog 380 #[.agg #[.string p,.int .i64 (W:Int),.int .i64 (l.length:Int)],.int .i64 k] W' fun e w'=>e=.returned (.int .i64 n)∧Below W'.heap.size W' w'):=hat
      clear hat hnn
      go_wp2_with fail
      refine (HAT.out _).mono ?_
      rintro e w2 ⟨rfl,hb2⟩
      have hr2:w2.heap[w1.heap.size + 1]?=some (.cells cur 3 (0,0)):=by rw [hb2.block _ (row_lt HROW.out)]; exact HROW.out
      have hs2:w2.heap[w1.heap.size]?=some (.cells #[.string p,.int .i64 (W:Int),.int .i64 (l.length:Int)] 507 (0,0)):=by rw [hb2.block _ (row_lt HSR.out)]; exact HSR.out
      have kc:∃ x,w2.cell? ⟨w1.heap.size + 1,k,none⟩=some x:=by
        rw [cell_heap hr2,Array.getElem?_eq_getElem (by omega)]; exact ⟨_,rfl⟩
      obtain ⟨x,kc⟩:=kc
      have kf:w2.frozen? ⟨w1.heap.size + 1,k,none⟩=false:=Lib.frozen_of_heap hr2 k
      have HR2':Hid (w2.heap[w1.heap.size + 1]?=some (.cells cur 3 (0,0))):=hr2
      have HS2':Hid (w2.heap[w1.heap.size]?=some (.cells #[.string p,.int .i64 (W:Int),.int .i64 (l.length:Int)] 507 (0,0))):=hs2
      have HB2:Hid (Below w.heap.size w w2):=HBL.out.trans (hb2.mono HBL.out.size)
      clear hr2 hs2 hb2 t0 t1 t2
      go_wp2
      go_roundw
      case rel =>
        refine ⟨k + 1,cur.set! k (.int .i64 n),by omega,by go_num,by simp [hcs],?_,?_,?_,HB2.out.setCell (p:=⟨w1.heap.size + 1,k,none⟩) (show w.heap.size ≤ w1.heap.size + 1 by omega) _⟩
        · intro j hj hjk
          rcases Nat.lt_or_ge j k with hjl | hjl
          · rw [Array.set!_eq_setIfInBounds,Array.getElem?_setIfInBounds_ne (by omega)]; exact HCUR.out j hj hjl
          · have:j=k:=by omega
            subst this
            rw [HNN.out]
            simp [Array.set!_eq_setIfInBounds,hcs,hj]
        · simp [World.setCell,Array.getElem?_modify,HR2'.out]
        · rw [World.setCell]
          simp [Array.getElem?_modify,HS2'.out]
      case measure=>simp [intOf]; omega
    · have hke:k=l.length:=by omega
      go_wp2
      go_ret2
      refine ⟨_,rfl,fun j hj=>?_,HBL.out⟩
      rw [cell_heap HROW.out]
      exact HCUR.out j hj (by omega)
end Go.Proofs.YtiefeeoellagnaaGreatDoor.S5
namespace Go.Proofs.YtiefeeoellagnaaGreatDoor.S5
open Go.RowKit IM
set_option linter.unusedVariables false
set_option maxHeartbeats 400000 in
set_option maxRecDepth 100000 in
theorem has_set (p:ByteArray) (W:Nat) (l:List Int) (h:IsSet p.data.toList W l) (n:Int) (w:World) :
    Calls Tryz.prog 501 #[.string p,.int .i64 n] w fun e w'=>e=.returned (.bool (decide (n ∈ l)))∧Below w.heap.size w w':=by
  have HP:Hid (∀ w,Calls Tryz.prog 379 #[.string p] w fun e w'=>e=.returned (.tuple #[setV p W l.length,.bool true])∧Below w.heap.size w w'):=fun w=>parse_set p W l h w
  have HF:Hid (∀ W',Calls Tryz.prog 512 #[setV p W l.length,.int .i64 n] W' fun e w'=>e=.returned (.tuple #[.int .i64 (pos l n:Nat),.bool (decide (n ∈ l))])∧Below W'.heap.size W' w'):=fun W'=>find_any p W l h n W'
  generalize decide (n ∈ l)=bb at *
  clear h
  unfold setV at *
  go_enter Tryz.func501,Tryz.ntmps501
  go_wp2_with fail
  refine (HP.out _).mono ?_
  rintro e w1 ⟨rfl,hb⟩
  have HB:Hid (Below w.heap.size w w1):=hb
  have hz:=hb.size
  clear hb
  obtain ⟨W1,hW1⟩:∃ W1,W1=w1.alloc (.cells #[.string p,.int .i64 (W:Int),.int .i64 (l.length:Int)] 507):=⟨_,rfl⟩
  have hrow:W1.heap[w1.heap.size]?=some (.cells #[.string p,.int .i64 (W:Int),.int .i64 (l.length:Int)] 507 (0,0)):=by rw [hW1]; exact heap_last _ _
  have t0:W1.cell? ⟨w1.heap.size,0,none⟩=some (.string p):=by rw [cell_heap hrow]; rfl
  have t1:W1.cell? ⟨w1.heap.size,1,none⟩=some (.int .i64 (W:Int)):=by rw [cell_heap hrow]; rfl
  have t2:W1.cell? ⟨w1.heap.size,2,none⟩=some (.int .i64 (l.length:Int)):=by rw [cell_heap hrow]; rfl
  have hz1:w1.heap.size < W1.heap.size:=row_lt hrow
  have HBW:Hid (Below w.heap.size w W1):=HB.out.trans (by rw [hW1]; exact ((Below.refl _ w1).alloc (Nat.le_refl _) _).mono hz)
  clear hrow
  go_wp2_with fail
  rw [← hW1]
  clear hW1
  refine (HF.out _).mono ?_
  rintro e w2 ⟨rfl,hb2⟩
  have HB2:Hid (Below w.heap.size w w2):=HBW.out.trans (hb2.mono (by omega))
  clear hb2
  go_wp2
  go_ret
  exact ⟨rfl,HB2.out⟩
end Go.Proofs.YtiefeeoellagnaaGreatDoor.S5
