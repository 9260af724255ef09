import Derived.Test.YtijambehfobopaaGreatDoorLGrow
import Derived.Test.YtijambehfobopaaGreatDoorWAI
import Derived.Deep.Cut
import Derived.Deep.CutRange
namespace Go.Proofs.YtijambehfobopaaGreatDoor
open Go.RowKit
set_option linter.unusedVariables false
theorem maker_keep {B b:Nat} {l:List UInt8} {w w':World} (h:MakerAt B b l w) (hb:Below w.heap.size w w'):MakerAt B b l w':=by
  obtain ⟨h0,v,h1,h2,h3⟩:=h
  exact ⟨h0,v,by rw [hb.block _ (row_lt h1)]; exact h1,own_keep h2 (fun k _ hk=>hb.block k hk),h3⟩
theorem maker_lt {B b:Nat} {l:List UInt8} {w:World} (h:MakerAt B b l w):b < w.heap.size:=by
  obtain ⟨h0,v,h1,h2,h3⟩:=h
  exact row_lt h1
theorem leB_snoc:∀ (i:Nat) (n:Int),LM.leB (i + 1) n=LM.leB i n ++ [UInt8.ofNat (n / (256 ^ i:Nat) % 256).toNat]
  | 0,n=>by simp [LM.leB]
  | i + 1,n=>by
    have h:=leB_snoc i (n / 256)
    rw [LM.leB,h,LM.leB,List.cons_append]
    rw [Int.ediv_ediv_of_nonneg (by omega),show (256:Int) * ((256 ^ i:Nat):Int)=((256 ^ (i + 1):Nat):Int) by rw [Nat.pow_succ]; omega]
theorem byte_of (x:Int):((UInt8.ofNat (x % 256).toNat).toNat:Int)=x % 256:=by
  rw [LM.ofNat_toNat _ (by omega)]; omega
theorem wb_int (B b:Nat) (l:List UInt8) (x:Int) (w:World) (h:MakerAt B b l w) (hlen:l.length ≤ 2199023255552) (hBw:B ≤ w.heap.size) :
    Calls Tryz.prog 139 #[.pointer (some ⟨b,0,none⟩),.int .u8 (x % 256)] w fun e w'=>e=.returned .nilIface∧(MakerAt B b (l ++ [UInt8.ofNat (x % 256).toNat]) w'∧BK B b w w'):=by
  have:=writeByte_any B b l (UInt8.ofNat (x % 256).toNat) w h (by omega) hBw
  rwa [byte_of] at this
theorem maker_dn {B b:Nat} {l:List UInt8} {w:World} (h:MakerAt B b l w) (n:Nat):MakerAt B b l (w.drewN n):=maker_keep h (below_dn (Below.refl _ w) n)
set_option maxHeartbeats 1000000 in
set_option maxRecDepth 100000 in
theorem low_mk (B b:Nat) (l:List UInt8) (n:Int) (sz:Nat) (hsz:sz ≤ 8) (hn:LM.I64 n) (w:World) (h:MakerAt B b l w) (hlen:l.length ≤ 1099511627776) (hBw:B ≤ w.heap.size) :
    Calls Tryz.prog 152 #[.pointer (some ⟨b,0,none⟩),.int .i64 n,.int .i64 sz] w fun e w'=>e=.returned (.tuple #[])∧(MakerAt B b (l ++ LM.leB sz n) w'∧BK B b w w'):=by
  have HM:Hid (MakerAt B b l w):=h
  have HN:Hid (LM.I64 n):=hn
  clear h hn
  go_enter Tryz.func152,Tryz.ntmps152
  go_wp2
  go_loopw [8] (fun c wr=>∃ i:Nat,i ≤ sz∧c=.int .i64 (i:Int)∧MakerAt B b (l ++ LM.leB i n) wr∧BK B b w wr) (fun c _=>sz - (intOf c).toNat)
  case atStart=>exact ⟨0,by omega,rfl,by simpa [LM.leB] using HM.out,BK.refl _ _ _⟩
  case round =>
    obtain ⟨i,hi,rfl,hm,hb⟩:=hrel
    have HB:Hid (BK B b w wr):=hb
    by_cases hlt:i < sz
    · have hmd:MakerAt B b (l ++ LM.leB i n) (wr.drewN 1):=maker_dn hm 1
      have hll:(l ++ LM.leB i n).length ≤ 2199023255552:=by rw [List.length_append,LM.leB_len]; omega
      have hBr:B ≤ wr.heap.size:=Nat.le_trans hBw hb.size
      have hw:=fun x=>wb_int B b (l ++ LM.leB i n) x (wr.drewN 1) hmd hll hBr
      have hs:=leB_snoc i n
      have h8:i < 8:=by omega
      clear hm hb hmd
      rcases (show i=0 ∨ i=1 ∨ i=2 ∨ i=3 ∨ i=4 ∨ i=5 ∨ i=6 ∨ i=7 by omega) with rfl | rfl | rfl | rfl | rfl | rfl | rfl | rfl
      · have HWB:Hid (∀ x:Int,Calls Tryz.prog 139 #[.pointer (some ⟨b,0,none⟩),.int .u8 (x % 256)] (wr.drewN 1) fun e w'=>e=.returned .nilIface∧(MakerAt B b (l ++ LM.leB 0 n ++ [UInt8.ofNat (x % 256).toNat]) w'∧BK B b (wr.drewN 1) w')):=hw
        have hwk:IntKind.i64.wrap 0=0:=by rw [IntKind.wrap_i64]; omega
        have hu8:IntKind.u8.wrap n=n % 256:=IntKind.wrap_u8 _
        have HS:Hid (LM.leB 1 n=LM.leB 0 n ++ [UInt8.ofNat (n / (1:Int) % 256).toNat]):=hs
        clear hw hs
        go_wp2_with fail
        go_region_with (go_at_call 139; refine (show Calls _ _ _ _ _ from HWB.out n).mono ?_; rintro e w2 ⟨rfl,hm2,hb2⟩; have HM2:Hid _:=hm2; have HB2:Hid _:=hb2; clear hm2 hb2)
        all_goals
          go_wp2
          go_roundw
          case rel =>
            refine ⟨1,by omega,rfl,?_,(HB.out.dn 1).trans HB2.out⟩
            have:=HM2.out
            rw [HS.out,← List.append_assoc]
            rw [Int.ediv_one]
            exact this
          case measure=>simp [intOf]; omega
      · have HWB:Hid (∀ x:Int,Calls Tryz.prog 139 #[.pointer (some ⟨b,0,none⟩),.int .u8 (x % 256)] (wr.drewN 1) fun e w'=>e=.returned .nilIface∧(MakerAt B b (l ++ LM.leB 1 n ++ [UInt8.ofNat (x % 256).toNat]) w'∧BK B b (wr.drewN 1) w')):=hw
        have hwk:IntKind.i64.wrap 8=8:=by rw [IntKind.wrap_i64]; omega
        have hu8:IntKind.u8.wrap (n / 256)=(n / 256) % 256:=IntKind.wrap_u8 _
        have HS:Hid (LM.leB 2 n=LM.leB 1 n ++ [UInt8.ofNat (n / (256:Int) % 256).toNat]):=hs
        clear hw hs
        go_wp2_with fail
        go_region_with (go_at_call 139; refine (show Calls _ _ _ _ _ from HWB.out (n / 256)).mono ?_; rintro e w2 ⟨rfl,hm2,hb2⟩; have HM2:Hid _:=hm2; have HB2:Hid _:=hb2; clear hm2 hb2)
        all_goals
          go_wp2
          go_roundw
          case rel =>
            refine ⟨2,by omega,rfl,?_,(HB.out.dn 1).trans HB2.out⟩
            have:=HM2.out
            rw [HS.out,← List.append_assoc]
            skip
            exact this
          case measure=>simp [intOf]; omega
      · have HWB:Hid (∀ x:Int,Calls Tryz.prog 139 #[.pointer (some ⟨b,0,none⟩),.int .u8 (x % 256)] (wr.drewN 1) fun e w'=>e=.returned .nilIface∧(MakerAt B b (l ++ LM.leB 2 n ++ [UInt8.ofNat (x % 256).toNat]) w'∧BK B b (wr.drewN 1) w')):=hw
        have hwk:IntKind.i64.wrap 16=16:=by rw [IntKind.wrap_i64]; omega
        have hu8:IntKind.u8.wrap (n / 65536)=(n / 65536) % 256:=IntKind.wrap_u8 _
        have HS:Hid (LM.leB 3 n=LM.leB 2 n ++ [UInt8.ofNat (n / (65536:Int) % 256).toNat]):=hs
        clear hw hs
        go_wp2_with fail
        go_region_with (go_at_call 139; refine (show Calls _ _ _ _ _ from HWB.out (n / 65536)).mono ?_; rintro e w2 ⟨rfl,hm2,hb2⟩; have HM2:Hid _:=hm2; have HB2:Hid _:=hb2; clear hm2 hb2)
        all_goals
          go_wp2
          go_roundw
          case rel =>
            refine ⟨3,by omega,rfl,?_,(HB.out.dn 1).trans HB2.out⟩
            have:=HM2.out
            rw [HS.out,← List.append_assoc]
            skip
            exact this
          case measure=>simp [intOf]; omega
      · have HWB:Hid (∀ x:Int,Calls Tryz.prog 139 #[.pointer (some ⟨b,0,none⟩),.int .u8 (x % 256)] (wr.drewN 1) fun e w'=>e=.returned .nilIface∧(MakerAt B b (l ++ LM.leB 3 n ++ [UInt8.ofNat (x % 256).toNat]) w'∧BK B b (wr.drewN 1) w')):=hw
        have hwk:IntKind.i64.wrap 24=24:=by rw [IntKind.wrap_i64]; omega
        have hu8:IntKind.u8.wrap (n / 16777216)=(n / 16777216) % 256:=IntKind.wrap_u8 _
        have HS:Hid (LM.leB 4 n=LM.leB 3 n ++ [UInt8.ofNat (n / (16777216:Int) % 256).toNat]):=hs
        clear hw hs
        go_wp2_with fail
        go_region_with (go_at_call 139; refine (show Calls _ _ _ _ _ from HWB.out (n / 16777216)).mono ?_; rintro e w2 ⟨rfl,hm2,hb2⟩; have HM2:Hid _:=hm2; have HB2:Hid _:=hb2; clear hm2 hb2)
        all_goals
          go_wp2
          go_roundw
          case rel =>
            refine ⟨4,by omega,rfl,?_,(HB.out.dn 1).trans HB2.out⟩
            have:=HM2.out
            rw [HS.out,← List.append_assoc]
            skip
            exact this
          case measure=>simp [intOf]; omega
      · have HWB:Hid (∀ x:Int,Calls Tryz.prog 139 #[.pointer (some ⟨b,0,none⟩),.int .u8 (x % 256)] (wr.drewN 1) fun e w'=>e=.returned .nilIface∧(MakerAt B b (l ++ LM.leB 4 n ++ [UInt8.ofNat (x % 256).toNat]) w'∧BK B b (wr.drewN 1) w')):=hw
        have hwk:IntKind.i64.wrap 32=32:=by rw [IntKind.wrap_i64]; omega
        have hu8:IntKind.u8.wrap (n / 4294967296)=(n / 4294967296) % 256:=IntKind.wrap_u8 _
        have HS:Hid (LM.leB 5 n=LM.leB 4 n ++ [UInt8.ofNat (n / (4294967296:Int) % 256).toNat]):=hs
        clear hw hs
        go_wp2_with fail
        go_region_with (go_at_call 139; refine (show Calls _ _ _ _ _ from HWB.out (n / 4294967296)).mono ?_; rintro e w2 ⟨rfl,hm2,hb2⟩; have HM2:Hid _:=hm2; have HB2:Hid _:=hb2; clear hm2 hb2)
        all_goals
          go_wp2
          go_roundw
          case rel =>
            refine ⟨5,by omega,rfl,?_,(HB.out.dn 1).trans HB2.out⟩
            have:=HM2.out
            rw [HS.out,← List.append_assoc]
            skip
            exact this
          case measure=>simp [intOf]; omega
      · have HWB:Hid (∀ x:Int,Calls Tryz.prog 139 #[.pointer (some ⟨b,0,none⟩),.int .u8 (x % 256)] (wr.drewN 1) fun e w'=>e=.returned .nilIface∧(MakerAt B b (l ++ LM.leB 5 n ++ [UInt8.ofNat (x % 256).toNat]) w'∧BK B b (wr.drewN 1) w')):=hw
        have hwk:IntKind.i64.wrap 40=40:=by rw [IntKind.wrap_i64]; omega
        have hu8:IntKind.u8.wrap (n / 1099511627776)=(n / 1099511627776) % 256:=IntKind.wrap_u8 _
        have HS:Hid (LM.leB 6 n=LM.leB 5 n ++ [UInt8.ofNat (n / (1099511627776:Int) % 256).toNat]):=hs
        clear hw hs
        go_wp2_with fail
        go_region_with (go_at_call 139; refine (show Calls _ _ _ _ _ from HWB.out (n / 1099511627776)).mono ?_; rintro e w2 ⟨rfl,hm2,hb2⟩; have HM2:Hid _:=hm2; have HB2:Hid _:=hb2; clear hm2 hb2)
        all_goals
          go_wp2
          go_roundw
          case rel =>
            refine ⟨6,by omega,rfl,?_,(HB.out.dn 1).trans HB2.out⟩
            have:=HM2.out
            rw [HS.out,← List.append_assoc]
            skip
            exact this
          case measure=>simp [intOf]; omega
      · have HWB:Hid (∀ x:Int,Calls Tryz.prog 139 #[.pointer (some ⟨b,0,none⟩),.int .u8 (x % 256)] (wr.drewN 1) fun e w'=>e=.returned .nilIface∧(MakerAt B b (l ++ LM.leB 6 n ++ [UInt8.ofNat (x % 256).toNat]) w'∧BK B b (wr.drewN 1) w')):=hw
        have hwk:IntKind.i64.wrap 48=48:=by rw [IntKind.wrap_i64]; omega
        have hu8:IntKind.u8.wrap (n / 281474976710656)=(n / 281474976710656) % 256:=IntKind.wrap_u8 _
        have HS:Hid (LM.leB 7 n=LM.leB 6 n ++ [UInt8.ofNat (n / (281474976710656:Int) % 256).toNat]):=hs
        clear hw hs
        go_wp2_with fail
        go_region_with (go_at_call 139; refine (show Calls _ _ _ _ _ from HWB.out (n / 281474976710656)).mono ?_; rintro e w2 ⟨rfl,hm2,hb2⟩; have HM2:Hid _:=hm2; have HB2:Hid _:=hb2; clear hm2 hb2)
        all_goals
          go_wp2
          go_roundw
          case rel =>
            refine ⟨7,by omega,rfl,?_,(HB.out.dn 1).trans HB2.out⟩
            have:=HM2.out
            rw [HS.out,← List.append_assoc]
            skip
            exact this
          case measure=>simp [intOf]; omega
      · have HWB:Hid (∀ x:Int,Calls Tryz.prog 139 #[.pointer (some ⟨b,0,none⟩),.int .u8 (x % 256)] (wr.drewN 1) fun e w'=>e=.returned .nilIface∧(MakerAt B b (l ++ LM.leB 7 n ++ [UInt8.ofNat (x % 256).toNat]) w'∧BK B b (wr.drewN 1) w')):=hw
        have hwk:IntKind.i64.wrap 56=56:=by rw [IntKind.wrap_i64]; omega
        have hu8:IntKind.u8.wrap (n / 72057594037927936)=(n / 72057594037927936) % 256:=IntKind.wrap_u8 _
        have HS:Hid (LM.leB 8 n=LM.leB 7 n ++ [UInt8.ofNat (n / (72057594037927936:Int) % 256).toNat]):=hs
        clear hw hs
        go_wp2_with fail
        go_region_with (go_at_call 139; refine (show Calls _ _ _ _ _ from HWB.out (n / 72057594037927936)).mono ?_; rintro e w2 ⟨rfl,hm2,hb2⟩; have HM2:Hid _:=hm2; have HB2:Hid _:=hb2; clear hm2 hb2)
        all_goals
          go_wp2
          go_roundw
          case rel =>
            refine ⟨8,by omega,rfl,?_,(HB.out.dn 1).trans HB2.out⟩
            have:=HM2.out
            rw [HS.out,← List.append_assoc]
            skip
            exact this
          case measure=>simp [intOf]; omega
    · have he:i=sz:=by omega
      subst he
      have HMM:Hid _:=hm
      clear hm hb
      go_wp2
      go_end0
      exact ⟨rfl,HMM.out,HB.out⟩
end Go.Proofs.YtijambehfobopaaGreatDoor
