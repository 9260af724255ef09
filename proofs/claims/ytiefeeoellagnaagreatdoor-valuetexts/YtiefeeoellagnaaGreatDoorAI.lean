import Derived.Test.YtiefeeoellagnaaGreatDoorAH
import Derived.Test.YtiefeeoellagnaaGreatDoorAD
import Derived.Deep.Cut
import Derived.Deep.CutRange
namespace Go.Proofs.YtiefeeoellagnaaGreatDoor.S6
open Go.RowKit
set_option linter.unusedVariables false
theorem maker_keep {B b:Nat} {l:List UInt8} {w w':World} (h:MakerAt B b l w) (hb:Below w.heap.size w w'):MakerAt B b l w':=by
  obtain ⟨h0,v,h1,h2,h3⟩:=h
  exact ⟨h0,v,by rw [hb.block _ (row_lt h1)]; exact h1,own_keep h2 (fun k _ hk=>hb.block k hk),h3⟩
theorem maker_lt {B b:Nat} {l:List UInt8} {w:World} (h:MakerAt B b l w):b < w.heap.size:=by
  obtain ⟨h0,v,h1,h2,h3⟩:=h
  exact row_lt h1
theorem leB_snoc:∀ (i:Nat) (n:Int),LM.leB (i + 1) n=LM.leB i n ++ [UInt8.ofNat (n / (256 ^ i:Nat) % 256).toNat]
  | 0,n=>by simp [LM.leB]
  | i + 1,n=>by
    have h:=leB_snoc i (n / 256)
    rw [LM.leB,h,LM.leB,List.cons_append]
    rw [Int.ediv_ediv_of_nonneg (by omega),show (256:Int) * ((256 ^ i:Nat):Int)=((256 ^ (i + 1):Nat):Int) by rw [Nat.pow_succ]; omega]
theorem byte_of (x:Int):((UInt8.ofNat (x % 256).toNat).toNat:Int)=x % 256:=by
  rw [LM.ofNat_toNat _ (by omega)]; omega
theorem wb_int (B b:Nat) (l:List UInt8) (x:Int) (w:World) (h:MakerAt B b l w) (hlen:l.length ≤ 2199023255552) (hBw:B ≤ w.heap.size) :
    Calls Tryz.prog 299 #[.pointer (some ⟨b,0,none⟩),.int .u8 (x % 256)] w fun e w'=>e=.returned .nilIface∧(MakerAt B b (l ++ [UInt8.ofNat (x % 256).toNat]) w'∧BK B b w w'):=by
  have:=writeByte_any B b l (UInt8.ofNat (x % 256).toNat) w h (by omega) hBw
  rwa [byte_of] at this
theorem maker_dn {B b:Nat} {l:List UInt8} {w:World} (h:MakerAt B b l w) (n:Nat):MakerAt B b l (w.drewN n):=maker_keep h (below_dn (Below.refl _ w) n)
set_option maxHeartbeats 1000000 in
set_option maxRecDepth 100000 in
theorem low_mk (B b:Nat) (l:List UInt8) (n:Int) (sz:Nat) (hsz:sz ≤ 8) (hn:LM.I64 n) (w:World) (h:MakerAt B b l w) (hlen:l.length ≤ 1099511627776) (hBw:B ≤ w.heap.size) :
    Calls Tryz.prog 343 #[.pointer (some ⟨b,0,none⟩),.int .i64 n,.int .i64 sz] w fun e w'=>e=.returned (.tuple #[])∧(MakerAt B b (l ++ LM.leB sz n) w'∧BK B b w w'):=by
  have HM:Hid (MakerAt B b l w):=h
  have HN:Hid (LM.I64 n):=hn
  clear h hn
  go_enter Tryz.func343,Tryz.ntmps343
  go_wp2
  go_loopw [8] (fun c wr=>∃ i:Nat,i ≤ sz∧c=.int .i64 (i:Int)∧MakerAt B b (l ++ LM.leB i n) wr∧BK B b w wr) (fun c _=>sz - (intOf c).toNat)
  case atStart=>exact ⟨0,by omega,rfl,by simpa [LM.leB] using HM.out,BK.refl _ _ _⟩
  case round =>
    obtain ⟨i,hi,rfl,hm,hb⟩:=hrel
    have HB:Hid (BK B b w wr):=hb
    by_cases hlt:i < sz
    · have hmd:MakerAt B b (l ++ LM.leB i n) (wr.drewN 1):=maker_dn hm 1
      have hll:(l ++ LM.leB i n).length ≤ 2199023255552:=by rw [List.length_append,LM.leB_len]; omega
      have hBr:B ≤ wr.heap.size:=Nat.le_trans hBw hb.size
      have hw:=fun x=>wb_int B b (l ++ LM.leB i n) x (wr.drewN 1) hmd hll hBr
      have hs:=leB_snoc i n
      have h8:i < 8:=by omega
      clear hm hb hmd
      rcases (show i=0 ∨ i=1 ∨ i=2 ∨ i=3 ∨ i=4 ∨ i=5 ∨ i=6 ∨ i=7 by omega) with rfl | rfl | rfl | rfl | rfl | rfl | rfl | rfl
      · have HWB:Hid (∀ x:Int,Calls Tryz.prog 299 #[.pointer (some ⟨b,0,none⟩),.int .u8 (x % 256)] (wr.drewN 1) fun e w'=>e=.returned .nilIface∧(MakerAt B b (l ++ LM.leB 0 n ++ [UInt8.ofNat (x % 256).toNat]) w'∧BK B b (wr.drewN 1) w')):=hw
        have hwk:IntKind.i64.wrap 0=0:=by rw [IntKind.wrap_i64]; omega
        have hu8:IntKind.u8.wrap n=n % 256:=IntKind.wrap_u8 _
        have HS:Hid (LM.leB 1 n=LM.leB 0 n ++ [UInt8.ofNat (n / (1:Int) % 256).toNat]):=hs
        clear hw hs
        go_wp2_with fail
        go_region_with (go_at_call 299; refine (show Calls _ _ _ _ _ from HWB.out n).mono ?_; rintro e w2 ⟨rfl,hm2,hb2⟩; have HM2:Hid _:=hm2; have HB2:Hid _:=hb2; clear hm2 hb2)
        all_goals
          go_wp2
          go_roundw
          case rel =>
            refine ⟨1,by omega,rfl,?_,(HB.out.dn 1).trans HB2.out⟩
            have:=HM2.out
            rw [HS.out,← List.append_assoc]
            rw [Int.ediv_one]
            exact this
          case measure=>simp [intOf]; omega
      · have HWB:Hid (∀ x:Int,Calls Tryz.prog 299 #[.pointer (some ⟨b,0,none⟩),.int .u8 (x % 256)] (wr.drewN 1) fun e w'=>e=.returned .nilIface∧(MakerAt B b (l ++ LM.leB 1 n ++ [UInt8.ofNat (x % 256).toNat]) w'∧BK B b (wr.drewN 1) w')):=hw
        have hwk:IntKind.i64.wrap 8=8:=by rw [IntKind.wrap_i64]; omega
        have hu8:IntKind.u8.wrap (n / 256)=(n / 256) % 256:=IntKind.wrap_u8 _
        have HS:Hid (LM.leB 2 n=LM.leB 1 n ++ [UInt8.ofNat (n / (256:Int) % 256).toNat]):=hs
        clear hw hs
        go_wp2_with fail
        go_region_with (go_at_call 299; refine (show Calls _ _ _ _ _ from HWB.out (n / 256)).mono ?_; rintro e w2 ⟨rfl,hm2,hb2⟩; have HM2:Hid _:=hm2; have HB2:Hid _:=hb2; clear hm2 hb2)
        all_goals
          go_wp2
          go_roundw
          case rel =>
            refine ⟨2,by omega,rfl,?_,(HB.out.dn 1).trans HB2.out⟩
            have:=HM2.out
            rw [HS.out,← List.append_assoc]
            skip
            exact this
          case measure=>simp [intOf]; omega
      · have HWB:Hid (∀ x:Int,Calls Tryz.prog 299 #[.pointer (some ⟨b,0,none⟩),.int .u8 (x % 256)] (wr.drewN 1) fun e w'=>e=.returned .nilIface∧(MakerAt B b (l ++ LM.leB 2 n ++ [UInt8.ofNat (x % 256).toNat]) w'∧BK B b (wr.drewN 1) w')):=hw
        have hwk:IntKind.i64.wrap 16=16:=by rw [IntKind.wrap_i64]; omega
        have hu8:IntKind.u8.wrap (n / 65536)=(n / 65536) % 256:=IntKind.wrap_u8 _
        have HS:Hid (LM.leB 3 n=LM.leB 2 n ++ [UInt8.ofNat (n / (65536:Int) % 256).toNat]):=hs
        clear hw hs
        go_wp2_with fail
        go_region_with (go_at_call 299; refine (show Calls _ _ _ _ _ from HWB.out (n / 65536)).mono ?_; rintro e w2 ⟨rfl,hm2,hb2⟩; have HM2:Hid _:=hm2; have HB2:Hid _:=hb2; clear hm2 hb2)
        all_goals
          go_wp2
          go_roundw
          case rel =>
            refine ⟨3,by omega,rfl,?_,(HB.out.dn 1).trans HB2.out⟩
            have:=HM2.out
            rw [HS.out,← List.append_assoc]
            skip
            exact this
          case measure=>simp [intOf]; omega
      · have HWB:Hid (∀ x:Int,Calls Tryz.prog 299 #[.pointer (some ⟨b,0,none⟩),.int .u8 (x % 256)] (wr.drewN 1) fun e w'=>e=.returned .nilIface∧(MakerAt B b (l ++ LM.leB 3 n ++ [UInt8.ofNat (x % 256).toNat]) w'∧BK B b (wr.drewN 1) w')):=hw
        have hwk:IntKind.i64.wrap 24=24:=by rw [IntKind.wrap_i64]; omega
        have hu8:IntKind.u8.wrap (n / 16777216)=(n / 16777216) % 256:=IntKind.wrap_u8 _
        have HS:Hid (LM.leB 4 n=LM.leB 3 n ++ [UInt8.ofNat (n / (16777216:Int) % 256).toNat]):=hs
        clear hw hs
        go_wp2_with fail
        go_region_with (go_at_call 299; refine (show Calls _ _ _ _ _ from HWB.out (n / 16777216)).mono ?_; rintro e w2 ⟨rfl,hm2,hb2⟩; have HM2:Hid _:=hm2; have HB2:Hid _:=hb2; clear hm2 hb2)
        all_goals
          go_wp2
          go_roundw
          case rel =>
            refine ⟨4,by omega,rfl,?_,(HB.out.dn 1).trans HB2.out⟩
            have:=HM2.out
            rw [HS.out,← List.append_assoc]
            skip
            exact this
          case measure=>simp [intOf]; omega
      · have HWB:Hid (∀ x:Int,Calls Tryz.prog 299 #[.pointer (some ⟨b,0,none⟩),.int .u8 (x % 256)] (wr.drewN 1) fun e w'=>e=.returned .nilIface∧(MakerAt B b (l ++ LM.leB 4 n ++ [UInt8.ofNat (x % 256).toNat]) w'∧BK B b (wr.drewN 1) w')):=hw
        have hwk:IntKind.i64.wrap 32=32:=by rw [IntKind.wrap_i64]; omega
        have hu8:IntKind.u8.wrap (n / 4294967296)=(n / 4294967296) % 256:=IntKind.wrap_u8 _
        have HS:Hid (LM.leB 5 n=LM.leB 4 n ++ [UInt8.ofNat (n / (4294967296:Int) % 256).toNat]):=hs
        clear hw hs
        go_wp2_with fail
        go_region_with (go_at_call 299; refine (show Calls _ _ _ _ _ from HWB.out (n / 4294967296)).mono ?_; rintro e w2 ⟨rfl,hm2,hb2⟩; have HM2:Hid _:=hm2; have HB2:Hid _:=hb2; clear hm2 hb2)
        all_goals
          go_wp2
          go_roundw
          case rel =>
            refine ⟨5,by omega,rfl,?_,(HB.out.dn 1).trans HB2.out⟩
            have:=HM2.out
            rw [HS.out,← List.append_assoc]
            skip
            exact this
          case measure=>simp [intOf]; omega
      · have HWB:Hid (∀ x:Int,Calls Tryz.prog 299 #[.pointer (some ⟨b,0,none⟩),.int .u8 (x % 256)] (wr.drewN 1) fun e w'=>e=.returned .nilIface∧(MakerAt B b (l ++ LM.leB 5 n ++ [UInt8.ofNat (x % 256).toNat]) w'∧BK B b (wr.drewN 1) w')):=hw
        have hwk:IntKind.i64.wrap 40=40:=by rw [IntKind.wrap_i64]; omega
        have hu8:IntKind.u8.wrap (n / 1099511627776)=(n / 1099511627776) % 256:=IntKind.wrap_u8 _
        have HS:Hid (LM.leB 6 n=LM.leB 5 n ++ [UInt8.ofNat (n / (1099511627776:Int) % 256).toNat]):=hs
        clear hw hs
        go_wp2_with fail
        go_region_with (go_at_call 299; refine (show Calls _ _ _ _ _ from HWB.out (n / 1099511627776)).mono ?_; rintro e w2 ⟨rfl,hm2,hb2⟩; have HM2:Hid _:=hm2; have HB2:Hid _:=hb2; clear hm2 hb2)
        all_goals
          go_wp2
          go_roundw
          case rel =>
            refine ⟨6,by omega,rfl,?_,(HB.out.dn 1).trans HB2.out⟩
            have:=HM2.out
            rw [HS.out,← List.append_assoc]
            skip
            exact this
          case measure=>simp [intOf]; omega
      · have HWB:Hid (∀ x:Int,Calls Tryz.prog 299 #[.pointer (some ⟨b,0,none⟩),.int .u8 (x % 256)] (wr.drewN 1) fun e w'=>e=.returned .nilIface∧(MakerAt B b (l ++ LM.leB 6 n ++ [UInt8.ofNat (x % 256).toNat]) w'∧BK B b (wr.drewN 1) w')):=hw
        have hwk:IntKind.i64.wrap 48=48:=by rw [IntKind.wrap_i64]; omega
        have hu8:IntKind.u8.wrap (n / 281474976710656)=(n / 281474976710656) % 256:=IntKind.wrap_u8 _
        have HS:Hid (LM.leB 7 n=LM.leB 6 n ++ [UInt8.ofNat (n / (281474976710656:Int) % 256).toNat]):=hs
        clear hw hs
        go_wp2_with fail
        go_region_with (go_at_call 299; refine (show Calls _ _ _ _ _ from HWB.out (n / 281474976710656)).mono ?_; rintro e w2 ⟨rfl,hm2,hb2⟩; have HM2:Hid _:=hm2; have HB2:Hid _:=hb2; clear hm2 hb2)
        all_goals
          go_wp2
          go_roundw
          case rel =>
            refine ⟨7,by omega,rfl,?_,(HB.out.dn 1).trans HB2.out⟩
            have:=HM2.out
            rw [HS.out,← List.append_assoc]
            skip
            exact this
          case measure=>simp [intOf]; omega
      · have HWB:Hid (∀ x:Int,Calls Tryz.prog 299 #[.pointer (some ⟨b,0,none⟩),.int .u8 (x % 256)] (wr.drewN 1) fun e w'=>e=.returned .nilIface∧(MakerAt B b (l ++ LM.leB 7 n ++ [UInt8.ofNat (x % 256).toNat]) w'∧BK B b (wr.drewN 1) w')):=hw
        have hwk:IntKind.i64.wrap 56=56:=by rw [IntKind.wrap_i64]; omega
        have hu8:IntKind.u8.wrap (n / 72057594037927936)=(n / 72057594037927936) % 256:=IntKind.wrap_u8 _
        have HS:Hid (LM.leB 8 n=LM.leB 7 n ++ [UInt8.ofNat (n / (72057594037927936:Int) % 256).toNat]):=hs
        clear hw hs
        go_wp2_with fail
        go_region_with (go_at_call 299; refine (show Calls _ _ _ _ _ from HWB.out (n / 72057594037927936)).mono ?_; rintro e w2 ⟨rfl,hm2,hb2⟩; have HM2:Hid _:=hm2; have HB2:Hid _:=hb2; clear hm2 hb2)
        all_goals
          go_wp2
          go_roundw
          case rel =>
            refine ⟨8,by omega,rfl,?_,(HB.out.dn 1).trans HB2.out⟩
            have:=HM2.out
            rw [HS.out,← List.append_assoc]
            skip
            exact this
          case measure=>simp [intOf]; omega
    · have he:i=sz:=by omega
      subst he
      have HMM:Hid _:=hm
      clear hm hb
      go_wp2
      go_end0
      exact ⟨rfl,HMM.out,HB.out⟩
end Go.Proofs.YtiefeeoellagnaaGreatDoor.S6
namespace Go.Proofs.YtiefeeoellagnaaGreatDoor.S6
open Go.RowKit
set_option linter.unusedVariables false
theorem maker_eq {B b:Nat} {l l':List UInt8} {w:World} (h:MakerAt B b l w) (e:l=l'):MakerAt B b l' w:=e ▸ h
theorem wb_eq (B b:Nat) (l:List UInt8) (c:UInt8) (x:Int) (hx:(c.toNat:Int)=x) (w:World) (h:MakerAt B b l w) (hlen:l.length ≤ 2199023255552) (hBw:B ≤ w.heap.size) :
    Calls Tryz.prog 299 #[.pointer (some ⟨b,0,none⟩),.int .u8 x] w fun e w'=>e=.returned .nilIface∧(MakerAt B b (l ++ [c]) w'∧BK B b w w'):=by
  subst hx; exact writeByte_any B b l c w h (by omega) hBw
set_option maxHeartbeats 1000000 in
set_option maxRecDepth 100000 in
theorem two_mk (B b:Nat) (l:List UInt8) (f n:Nat) (hf:f + n / 256 < 256) (hn:n < 8192) (w:World) (h:MakerAt B b l w) (hlen:l.length ≤ 1099511627776) (hBw:B ≤ w.heap.size) :
    Calls Tryz.prog 377 #[.pointer (some ⟨b,0,none⟩),.int .i64 f,.int .i64 n] w fun e w'=>e=.returned (.tuple #[])∧(MakerAt B b (l ++ [UInt8.ofNat (f + n / 256),UInt8.ofNat (n % 256)]) w'∧BK B b w w'):=by
  have HM0:Hid (MakerAt B b l w):=h
  clear h
  go_enter Tryz.func377,Tryz.ntmps377
  go_wp2_with fail
  refine (wb_eq B b l (UInt8.ofNat (f + n / 256)) _ (by rw [LM.ofNat_toNat _ (by omega)]; omega) _ HM0.out (by omega) hBw).mono ?_
  rintro e w1 ⟨rfl,hm1,hb1⟩
  have HM1:Hid (MakerAt B b _ _):=hm1
  have HB1:Hid (BK B b w w1):=hb1
  have hBc:B ≤ w1.heap.size:=Nat.le_trans hBw hb1.size
  clear hm1 hb1
  go_wp2_with fail
  refine (wb_eq B b (l ++ [UInt8.ofNat (f + n / 256)]) (UInt8.ofNat (n % 256)) _ (by rw [LM.ofNat_toNat _ (by omega)]; omega) _ HM1.out (by simp; omega) hBc).mono ?_
  rintro e w2 ⟨rfl,hm2,hb2⟩
  have HM2:Hid (MakerAt B b _ _):=hm2
  have HB2:Hid _:=hb2
  clear hm2 hb2
  go_wp2
  go_end0
  refine ⟨rfl,?_,HB1.out.trans HB2.out⟩
  exact maker_eq HM2.out (by simp)
set_option maxHeartbeats 1000000 in
set_option maxRecDepth 100000 in
theorem text_mk (B b:Nat) (l:List UInt8) (s:ByteArray) (hs:s.size ≤ 524288) (w:World) (h:MakerAt B b l w) (hlen:l.length ≤ 549755813888) (hBw:B ≤ w.heap.size) :
    Calls Tryz.prog 345 #[.pointer (some ⟨b,0,none⟩),.string s] w fun e w'=>e=.returned (.tuple #[])∧(MakerAt B b (l ++ LM.tdata s.data.toList) w'∧BK B b w w'):=by
  have HM0:Hid (MakerAt B b l w):=h
  have HWS:Hid (∀ L W,MakerAt B b L W → L.length ≤ 2199023255552 → B ≤ W.heap.size → Calls Tryz.prog 296 #[.pointer (some ⟨b,0,none⟩),.string s] W fun e w'=>e=.returned (.tuple #[.int .i64 s.size,.nilIface])∧(MakerAt B b (L ++ s.data.toList) w'∧BK B b W w')):=fun L W hM hl hB=>writeString_any B b L s W hM (by omega) hB
  have HTH:Hid (∀ W,Calls Tryz.prog 376 #[.int .i64 s.size] W fun e w'=>e=.returned (.int .i64 (LM.thead s.size:Nat))∧w'=W):=fun W=>th_any s.size (by omega) W
  clear h
  by_cases h1:s.size ≤ 63
  · have hth:LM.thead s.size=1:=by unfold LM.thead; rw [if_pos h1]
    have HTD:Hid (LM.tdata s.data.toList=UInt8.ofNat (128 + s.size) :: s.data.toList):=by show _=_; unfold LM.tdata; rw [list_len,if_pos h1]
    go_enter Tryz.func345,Tryz.ntmps345
    go_wp2_with fail
    refine (show Calls _ _ _ _ _ from HTH.out _).mono ?_
    rintro e w1 ⟨rfl,rfl⟩
    rw [hth]
    go_wp2_with fail
    refine (wb_eq B b l (UInt8.ofNat (128 + s.size)) _ (by rw [LM.ofNat_toNat _ (by omega)]; omega) _ HM0.out (by omega) hBw).mono ?_
    rintro e w2 ⟨rfl,hm1,hb1⟩
    have HM1:Hid (MakerAt B b _ _):=hm1
    have HB1:Hid (BK B b _ w2):=hb1
    have hBc:B ≤ w2.heap.size:=Nat.le_trans hBw hb1.size
    clear hm1 hb1
    go_wp2_with fail
    refine (show Calls _ _ _ _ _ from HWS.out _ _ HM1.out (by simp; omega) hBc).mono ?_
    rintro e w3 ⟨rfl,hm2,hb2⟩
    have HM2:Hid (MakerAt B b _ _):=hm2
    have HB2:Hid _:=hb2
    clear hm2 hb2
    go_wp2
    go_end0
    refine ⟨rfl,?_,HB1.out.trans HB2.out⟩
    rw [HTD.out]; exact maker_eq HM2.out (by simp)
  · by_cases h2:s.size ≤ 4095
    · have hth:LM.thead s.size=2:=by unfold LM.thead; rw [if_neg h1,if_pos h2]
      have HTD:Hid (LM.tdata s.data.toList=UInt8.ofNat (224 + s.size / 256) :: UInt8.ofNat (s.size % 256) :: s.data.toList):=by show _=_; unfold LM.tdata; rw [list_len,if_neg h1,if_pos h2]
      have HW:Hid (Calls Tryz.prog 377 #[.pointer (some ⟨b,0,none⟩),.int .i64 224,.int .i64 (s.size:Int)] w fun e w'=>e=.returned (.tuple #[])∧(MakerAt B b (l ++ [UInt8.ofNat (224 + s.size / 256),UInt8.ofNat (s.size % 256)]) w'∧BK B b w w')):=two_mk B b l 224 s.size (by omega) (by omega) w HM0.out (by omega) hBw
      go_enter Tryz.func345,Tryz.ntmps345
      go_wp2_with fail
      refine (show Calls _ _ _ _ _ from HTH.out _).mono ?_
      rintro e w1 ⟨rfl,rfl⟩
      rw [hth]
      go_wp2_with fail
      refine (show Calls _ _ _ _ _ from HW.out).mono ?_
      rintro e w2 ⟨rfl,hm1,hb1⟩
      have HM1:Hid (MakerAt B b _ _):=hm1
      have HB1:Hid (BK B b _ w2):=hb1
      have hBc:B ≤ w2.heap.size:=Nat.le_trans hBw hb1.size
      clear hm1 hb1
      go_wp2_with fail
      refine (show Calls _ _ _ _ _ from HWS.out _ _ HM1.out (by simp; omega) hBc).mono ?_
      rintro e w3 ⟨rfl,hm2,hb2⟩
      have HM2:Hid (MakerAt B b _ _):=hm2
      have HB2:Hid _:=hb2
      clear hm2 hb2
      go_wp2
      go_end0
      refine ⟨rfl,?_,HB1.out.trans HB2.out⟩
      rw [HTD.out]; exact maker_eq HM2.out (by simp)
    · have hth:LM.thead s.size=5:=by unfold LM.thead; rw [if_neg h1,if_neg h2]
      have HTD:Hid (LM.tdata s.data.toList=240 :: (LM.leB 4 (s.size:Nat) ++ s.data.toList)):=by show _=_; unfold LM.tdata; rw [list_len,if_neg h1,if_neg h2]
      have HLW:Hid (∀ W,MakerAt B b (l ++ [240]) W → B ≤ W.heap.size → Calls Tryz.prog 343 #[.pointer (some ⟨b,0,none⟩),.int .i64 (s.size:Int),.int .i64 4] W fun e w'=>e=.returned (.tuple #[])∧(MakerAt B b (l ++ [240] ++ LM.leB 4 (s.size:Int)) w'∧BK B b W w')):=fun W hM hB=>low_mk B b (l ++ [240]) (s.size:Int) 4 (by omega) ⟨by omega,by omega⟩ W hM (by simp; omega) hB
      go_enter Tryz.func345,Tryz.ntmps345
      go_wp2_with fail
      refine (show Calls _ _ _ _ _ from HTH.out _).mono ?_
      rintro e w1 ⟨rfl,rfl⟩
      rw [hth]
      go_wp2_with fail
      refine (wb_eq B b l 240 _ rfl _ HM0.out (by omega) hBw).mono ?_
      rintro e w2 ⟨rfl,hm1,hb1⟩
      have HM1:Hid (MakerAt B b _ _):=hm1
      have HB1:Hid (BK B b _ w2):=hb1
      have hBc:B ≤ w2.heap.size:=Nat.le_trans hBw hb1.size
      clear hm1 hb1
      go_wp2_with fail
      refine (show Calls _ _ _ _ _ from HLW.out _ HM1.out hBc).mono ?_
      rintro e w3 ⟨rfl,hm2,hb2⟩
      have HM2:Hid (MakerAt B b _ _):=hm2
      have HB2:Hid (BK B b _ w3):=HB1.out.trans hb2
      have hBd:B ≤ w3.heap.size:=Nat.le_trans hBw HB2.out.size
      clear hm2 hb2
      go_wp2_with fail
      refine (show Calls _ _ _ _ _ from HWS.out _ _ HM2.out (by simp [LM.leB_len]; omega) hBd).mono ?_
      rintro e w4 ⟨rfl,hm3,hb3⟩
      have HM3:Hid (MakerAt B b _ _):=hm3
      have HB3:Hid _:=hb3
      clear hm3 hb3
      go_wp2
      go_end0
      refine ⟨rfl,?_,HB2.out.trans HB3.out⟩
      rw [HTD.out]; exact maker_eq HM3.out (by simp)
end Go.Proofs.YtiefeeoellagnaaGreatDoor.S6
namespace Go.Proofs.YtiefeeoellagnaaGreatDoor.S6
open Go.RowKit
set_option linter.unusedVariables false
theorem and13 (n:Int) (hn:LM.I64 n):bits .and .i64 n 8191=n % 8192:=by
  obtain ⟨h0,h1⟩:=hn
  show IntKind.i64.wrap ((BitVec.ofInt 64 n &&& BitVec.ofInt 64 ((8191:Nat):Int)).toNat:Int)=_
  have e2:(BitVec.ofInt 64 ((8191:Nat):Int)).toNat=8191:=by rw [BitVec.ofInt_natCast,BitVec.toNat_ofNat]
  have e1:(BitVec.ofInt 64 n).toNat=(n % 18446744073709551616).toNat:=by rw [BitVec.toNat_ofInt]; rfl
  rw [BitVec.toNat_and,e1,e2,show (8191:Nat)=2 ^ 13 - 1 by decide,Nat.and_two_pow_sub_one_eq_mod,w64_wrap]
  unfold wrap64
  have:(2:Nat) ^ 13=8192:=by decide
  rw [this]
  omega
theorem ndata_lw (n:Int) (h1:¬ (0 ≤ n∧n ≤ 127)) (h2:¬ (-4096 ≤ n∧n ≤ 4095)):LM.ndata n=UInt8.ofNat (241 + lw n) :: LM.leB (wd (lw n)) n:=by
  unfold LM.ndata lw wd; rw [if_neg h1,if_neg h2]
  split
  · rfl
  split
  · rfl
  split
  · rfl
  · rfl
set_option maxHeartbeats 1000000 in
set_option maxRecDepth 100000 in
theorem number_mk (B b:Nat) (l:List UInt8) (n:Int) (hn:LM.I64 n) (w:World) (hW:Wid w) (hg:1 < B) (h:MakerAt B b l w) (hlen:l.length ≤ 549755813888) (hBw:B ≤ w.heap.size) :
    Calls Tryz.prog 344 #[.pointer (some ⟨b,0,none⟩),.int .i64 n] w fun e w'=>e=.returned (.tuple #[])∧(MakerAt B b (l ++ LM.ndata n) w'∧BK B b w w'):=by
  have HM0:Hid (MakerAt B b l w):=h
  have HW:Hid (Wid w):=hW
  have HN:Hid (LM.I64 n):=hn
  have HNS:Hid (∀ W,Wid W → Calls Tryz.prog 375 #[.int .i64 n] W fun e w'=>e=.returned (.int .i64 (LM.nsize n:Nat))∧w'=W):=fun W hW=>nsz_any n hn W hW
  clear h hW
  by_cases h1:0 ≤ n∧n ≤ 127
  · have hs:LM.nsize n=1:=by unfold LM.nsize; rw [if_pos h1]
    have HD:Hid (LM.ndata n=[UInt8.ofNat n.toNat]):=by show _=_; unfold LM.ndata; rw [if_pos h1]
    obtain ⟨h1a,h1b⟩:=h1
    clear hn
    go_enter Tryz.func344,Tryz.ntmps344
    go_wp2_with fail
    refine (show Calls _ _ _ _ _ from HNS.out _ HW.out).mono ?_
    rintro e w1 ⟨rfl,rfl⟩
    rw [hs]
    go_wp2_with fail
    refine (wb_eq B b l (UInt8.ofNat n.toNat) _ (by rw [LM.ofNat_toNat _ (by omega)]; omega) _ HM0.out (by omega) hBw).mono ?_
    rintro e w2 ⟨rfl,hm1,hb1⟩
    have HM1:Hid (MakerAt B b _ _):=hm1
    have HB1:Hid (BK B b _ w2):=hb1
    clear hm1 hb1
    go_wp2
    go_end0
    exact ⟨rfl,maker_eq HM1.out (by rw [HD.out]),HB1.out⟩
  · by_cases h2:-4096 ≤ n∧n ≤ 4095
    · have hs:LM.nsize n=2:=by unfold LM.nsize; rw [if_neg h1,if_pos h2]
      obtain ⟨m,hm⟩:∃ m:Nat,n % 8192=(m:Int):=⟨(n % 8192).toNat,by omega⟩
      have hm2:m < 8192:=by omega
      have ha:bits .and .i64 n 8191=(m:Int):=(and13 n hn).trans hm
      have HD:Hid (LM.ndata n=[UInt8.ofNat (192 + m / 256),UInt8.ofNat (m % 256)]):=by
        show _=_; unfold LM.ndata; rw [if_neg h1,if_pos h2]
        rw [show (n % 8192 / 256).toNat=m / 256 by omega,show (n % 256).toNat=m % 256 by omega]
      clear hn hm h1 h2
      go_enter Tryz.func344,Tryz.ntmps344
      go_wp2_with fail
      refine (show Calls _ _ _ _ _ from HNS.out _ HW.out).mono ?_
      rintro e w1 ⟨rfl,rfl⟩
      rw [hs]
      go_wp2_with fail
      refine (show Calls _ _ _ _ _ from two_mk B b l 192 m (by omega) hm2 _ HM0.out (by omega) hBw).mono ?_
      rintro e w2 ⟨rfl,hm1,hb1⟩
      have HM1:Hid (MakerAt B b _ _):=hm1
      have HB1:Hid (BK B b _ w2):=hb1
      clear hm1 hb1
      go_wp2
      go_end0
      exact ⟨rfl,maker_eq HM1.out (by rw [HD.out]),HB1.out⟩
    · have hs:LM.nsize n=1 + wd (lw n):=nsize_lw n h1 h2
      have HD:Hid _:=ndata_lw n h1 h2
      have hl4:=lw_lt n
      have hw8:=wd_le (lw n)
      have hwd2:2 ≤ wd (lw n):=by unfold wd; (repeat' split) <;> omega
      have HLE:Hid (∀ W,Wid W → Calls Tryz.prog 378 #[.int .i64 n] W fun e w'=>e=.returned (.int .i64 (lw n:Nat))∧w'=W):=fun W hW=>least_any n hn W hW
      have HLW:Hid (∀ W,MakerAt B b (l ++ [UInt8.ofNat (241 + lw n)]) W → B ≤ W.heap.size → Calls Tryz.prog 343 #[.pointer (some ⟨b,0,none⟩),.int .i64 n,.int .i64 (wd (lw n):Nat)] W fun e w'=>e=.returned (.tuple #[])∧(MakerAt B b (l ++ [UInt8.ofNat (241 + lw n)] ++ LM.leB (wd (lw n)) n) w'∧BK B b W w')):=fun W hM hB=>low_mk B b (l ++ [UInt8.ofNat (241 + lw n)]) n (wd (lw n)) hw8 hn W hM (by simp; omega) hB
      have HWA:Hid (∀ W,Wid W → W.cell? ⟨1,lw n,none⟩=some (.int .i64 (wd (lw n):Nat))):=fun W hW=>wid_at hW (lw n) hl4
      clear hn h1 h2
      generalize lw n=i at *
      generalize wd i=k at *
      go_enter Tryz.func344,Tryz.ntmps344
      go_wp2_with fail
      refine (show Calls _ _ _ _ _ from HNS.out _ HW.out).mono ?_
      rintro e w1 ⟨rfl,rfl⟩
      rw [hs]
      go_wp2_with fail
      refine (show Calls _ _ _ _ _ from HLE.out _ HW.out).mono ?_
      rintro e w2 ⟨rfl,rfl⟩
      go_wp2_with fail
      refine (wb_eq B b l (UInt8.ofNat (241 + i)) _ (by rw [LM.ofNat_toNat _ (by omega)]; omega) _ HM0.out (by omega) hBw).mono ?_
      rintro e w3 ⟨rfl,hm1,hb1⟩
      have HM1:Hid (MakerAt B b _ _):=hm1
      have HB1:Hid (BK B b _ w3):=hb1
      have hBc:B ≤ w3.heap.size:=Nat.le_trans hBw hb1.size
      have hc:w3.cell? ⟨1,i,none⟩=some (.int .i64 (k:Nat)):=(hb1.bel.cell (p:=⟨1,i,none⟩) hg).trans (HWA.out _ HW.out)
      clear hm1 hb1
      go_wp2_with fail
      refine (show Calls _ _ _ _ _ from HLW.out _ HM1.out hBc).mono ?_
      rintro e w4 ⟨rfl,hm2,hb2⟩
      have HM2:Hid (MakerAt B b _ _):=hm2
      have HB2:Hid (BK B b _ w4):=hb2
      clear hm2 hb2
      go_wp2
      go_end0
      exact ⟨rfl,maker_eq HM2.out (by rw [HD.out]; simp),HB1.out.trans HB2.out⟩
theorem Wid.onB {B b:Nat} {w w':World} (h:Wid w) (hb:BK B b w w') (hg:1 < B):Wid w':=
  ⟨(hb.bel.cell (p:=⟨1,0,none⟩) hg).trans h.c0,(hb.bel.cell (p:=⟨1,1,none⟩) hg).trans h.c1,(hb.bel.cell (p:=⟨1,2,none⟩) hg).trans h.c2,(hb.bel.cell (p:=⟨1,3,none⟩) hg).trans h.c3⟩
theorem back_snoc (n i:Nat) (h:i < LM.bsz n):(LM.back n).take (i + 1)=(LM.back n).take i ++ [LM.bbyte n (LM.bsz n) i]:=by
  rw [take_more _ i (LM.bbyte n (LM.bsz n) i)]
  unfold LM.back
  rw [List.getElem?_map,List.getElem?_range h]; rfl
set_option maxHeartbeats 1000000 in
set_option maxRecDepth 100000 in
theorem put_mk (B b:Nat) (l:List UInt8) (it:LM.Item) (hit:LM.Wf it) (w:World) (hW:Wid w) (hg:1 < B) (h:MakerAt B b l w) (hlen:l.length ≤ 274877906944) (hBw:B ≤ w.heap.size) :
    Calls Tryz.prog 297 #[.pointer (some ⟨b,0,none⟩),.agg #[.string (strB it.txt),.int .i64 it.num,.bool it.isN]] w fun e w'=>e=.returned (.tuple #[])∧(MakerAt B b (l ++ LM.ent it) w'∧BK B b w w'):=by
  have hd1:=LM.dsize_pos it
  have hd2:=LM.dsize_le it hit
  have hb3:=LM.bsz_le3 (LM.dsize it) (by omega)
  have hb1:=LM.bsz_pos (LM.dsize it)
  have HSZ:Hid (∀ W,Wid W → Calls Tryz.prog 342 #[.agg #[.string (strB it.txt),.int .i64 it.num,.bool it.isN]] W fun e w'=>e=.returned (.int .i64 (LM.dsize it:Nat))∧Below W.heap.size W w'):=fun W hW=>size_any it 524288 (by
    rcases hit with ⟨h1,h2,h3⟩ | ⟨h1,h2,h3,h4⟩
    · exact Or.inl ⟨h1,h2,h3⟩
    · exact Or.inr ⟨h1,h2,h4⟩) (by omega) W hW
  have HDT:Hid (∀ W,Wid W → MakerAt B b l W → B ≤ W.heap.size → if it.isN then
      Calls Tryz.prog 344 #[.pointer (some ⟨b,0,none⟩),.int .i64 it.num] W fun e w'=>e=.returned (.tuple #[])∧(MakerAt B b (l ++ LM.data it) w'∧BK B b W w')
      else Calls Tryz.prog 345 #[.pointer (some ⟨b,0,none⟩),.string (strB it.txt)] W fun e w'=>e=.returned (.tuple #[])∧(MakerAt B b (l ++ LM.data it) w'∧BK B b W w')):=fun W hW hM hB=>by
    rcases hit with ⟨h1,h2,h3⟩ | ⟨h1,h2,h3,h4⟩
    · rw [h1,if_pos rfl]; unfold LM.data; rw [h1]
      exact number_mk B b l it.num h3 W hW hg hM (by omega) hB
    · rw [h1,if_neg (by simp)]; unfold LM.data; rw [h1]
      have:=text_mk B b l (strB it.txt) (by rw [strB_size]; exact h4) W hM (by omega) hB
      rw [strB_list] at this
      exact this
  have HE:Hid (LM.ent it=LM.data it ++ LM.back (LM.dsize it)):=rfl
  have hdl:(LM.data it).length=LM.dsize it:=LM.data_len it
  have HM0:Hid (MakerAt B b l w):=h
  have HW:Hid (Wid w):=hW
  clear h hW hit
  generalize LM.dsize it=D at *
  generalize hDA:LM.data it=DA at *
  generalize LM.ent it=EN at *
  clear hDA
  obtain ⟨t,m,q⟩:=it
  simp only at HSZ HDT ⊢
  generalize strB t=T at *
  have HBW:Hid (BK B b w (w.alloc (.cells #[.string T,.int .i64 m,.bool q] 385))):=BK.of ((Below.refl _ w).alloc (Nat.le_refl _) _) hBw
  have HBX:Hid (Below w.heap.size w (w.alloc (.cells #[.string T,.int .i64 m,.bool q] 385))):=(Below.refl _ w).alloc (Nat.le_refl _) _
  have hblt:=maker_lt HM0.out
  cases q with
  | true =>
    have HDQ:Hid (∀ W,Wid W → MakerAt B b l W → B ≤ W.heap.size → Calls Tryz.prog 344 #[.pointer (some ⟨b,0,none⟩),.int .i64 m] W fun e w'=>e=.returned (.tuple #[])∧(MakerAt B b (l ++ DA) w'∧BK B b W w')):=fun W h1 h2 h3=>by have:=HDT.out W h1 h2 h3; simpa using this
    have HRW:Hid ((w.alloc (.cells #[.string T,.int .i64 m,.bool true] 385)).heap[w.heap.size]?=some (.cells #[.string T,.int .i64 m,.bool true] 385)):=one_alloc w _
    have HMA:Hid (MakerAt B b l (w.alloc (.cells #[.string T,.int .i64 m,.bool true] 385))):=maker_keep HM0.out HBX.out
    have HWA:Hid (Wid (w.alloc (.cells #[.string T,.int .i64 m,.bool true] 385))):=HW.out.on HBX.out
    have hBA:B ≤ (w.alloc (.cells #[.string T,.int .i64 m,.bool true] 385)).heap.size:=by simp; omega
    clear HDT
    go_enter Tryz.func297,Tryz.ntmps297
    go_wp2_with fail
    refine (show Calls _ _ _ _ _ from HDQ.out _ HWA.out HMA.out hBA).mono ?_
    rintro e w1 ⟨rfl,hm1,hk1⟩
    have HM1:Hid (MakerAt B b (l ++ DA) w1):=hm1
    have HB1:Hid (BK B b w w1):=HBW.out.trans hk1
    have HR1:Hid (w1.heap[w.heap.size]?=some (.cells #[.string T,.int .i64 m,.bool true] 385)):=hk1.kept _ _ _ _ HRW.out (by omega) (by decide)
    have HW1:Hid (Wid w1):=HW.out.onB HB1.out hg
    have hB1:B ≤ w1.heap.size:=Nat.le_trans hBw HB1.out.size
    obtain ⟨d0,d1,d2,df⟩:=row3 HR1.out
    clear hm1 hk1
    go_wp2_with fail
    refine (show Calls _ _ _ _ _ from HSZ.out _ HW1.out).mono ?_
    rintro e w2 ⟨rfl,hb2⟩
    have HM2:Hid (MakerAt B b (l ++ DA) w2):=maker_keep HM1.out hb2
    have HB2:Hid (BK B b w w2):=HB1.out.trans (BK.of hb2 hB1)
    have hB2:B ≤ w2.heap.size:=Nat.le_trans hBw HB2.out.size
    clear hb2 d0 d1 d2 df hB1
    go_wp2_with fail
    refine (bsz_any D hd1 (by omega) _).mono ?_
    rintro e w3 ⟨rfl,rfl⟩
    go_wp2
    go_loopw [22] (fun c wr=>∃ i:Nat,i ≤ LM.bsz D∧c=.int .i64 (i:Int)∧MakerAt B b (l ++ DA ++ (LM.back D).take i) wr∧BK B b w wr) (fun c _=>LM.bsz D - (intOf c).toNat)
    case atStart=>exact ⟨0,by omega,rfl,by simpa using HM2.out,HB2.out⟩
    case round =>
      obtain ⟨i,hi,rfl,hm,hb⟩:=hrel
      have HB:Hid (BK B b w wr):=hb
      by_cases hlt:i < LM.bsz D
      · obtain ⟨y,hy⟩:∃ y:Int,((LM.bbyte D (LM.bsz D) i).toNat:Int)=y:=⟨_,rfl⟩
        have HBB:Hid (∀ W,Calls Tryz.prog 346 #[.int .i64 D,.int .i64 (LM.bsz D:Nat),.int .i64 i] W fun e w'=>e=.returned (.int .u8 y)∧w'=W):=fun W=>by
          rw [← hy]; exact bb_any D (LM.bsz D) i (by omega) hb3 hlt W
        have HWB:Hid (Calls Tryz.prog 299 #[.pointer (some ⟨b,0,none⟩),.int .u8 y] (wr.drewN 1) fun e w'=>e=.returned .nilIface∧(MakerAt B b (l ++ DA ++ (LM.back D).take i ++ [LM.bbyte D (LM.bsz D) i]) w'∧BK B b (wr.drewN 1) w')):=wb_eq B b _ (LM.bbyte D (LM.bsz D) i) y hy (wr.drewN 1) (maker_dn hm 1) (by simp only [List.length_append,List.length_take]; have:=LM.back_len D; omega) (by show B ≤ wr.heap.size; exact Nat.le_trans hBw hb.size)
        have HS:Hid _:=back_snoc D i hlt
        clear hm hb hy
        go_wp2_with fail
        go_region_with (first
          | (go_at_call 346; refine (show Calls _ _ _ _ _ from HBB.out _).mono ?_; rintro e w4 ⟨rfl,rfl⟩)
          | (go_at_call 299; refine (show Calls _ _ _ _ _ from HWB.out).mono ?_; rintro e w5 ⟨rfl,hm5,hb5⟩; have HM5:Hid (MakerAt B b _ _):=hm5; have HB5:Hid _:=hb5; clear hm5 hb5))
        all_goals
          go_wp2
          go_roundw
          case rel=>exact ⟨i + 1,hlt,rfl,maker_eq HM5.out (by rw [HS.out]; simp),(HB.out.dn 1).trans HB5.out⟩
          case measure=>simp [intOf]; omega
      · have he:i=LM.bsz D:=by omega
        subst he
        have HMM:Hid (MakerAt B b _ _):=hm
        clear hm hb
        go_wp2
        go_end0
        refine ⟨rfl,maker_eq HMM.out ?_,HB.out⟩
        rw [HE.out,List.take_of_length_le (by rw [LM.back_len]; exact Nat.le_refl _),List.append_assoc]
  | false =>
    have HDQ:Hid (∀ W,Wid W → MakerAt B b l W → B ≤ W.heap.size → Calls Tryz.prog 345 #[.pointer (some ⟨b,0,none⟩),.string T] W fun e w'=>e=.returned (.tuple #[])∧(MakerAt B b (l ++ DA) w'∧BK B b W w')):=fun W h1 h2 h3=>by have:=HDT.out W h1 h2 h3; simpa using this
    have HRW:Hid ((w.alloc (.cells #[.string T,.int .i64 m,.bool false] 385)).heap[w.heap.size]?=some (.cells #[.string T,.int .i64 m,.bool false] 385)):=one_alloc w _
    have HMA:Hid (MakerAt B b l (w.alloc (.cells #[.string T,.int .i64 m,.bool false] 385))):=maker_keep HM0.out HBX.out
    have HWA:Hid (Wid (w.alloc (.cells #[.string T,.int .i64 m,.bool false] 385))):=HW.out.on HBX.out
    have hBA:B ≤ (w.alloc (.cells #[.string T,.int .i64 m,.bool false] 385)).heap.size:=by simp; omega
    clear HDT
    go_enter Tryz.func297,Tryz.ntmps297
    go_wp2_with fail
    refine (show Calls _ _ _ _ _ from HDQ.out _ HWA.out HMA.out hBA).mono ?_
    rintro e w1 ⟨rfl,hm1,hk1⟩
    have HM1:Hid (MakerAt B b (l ++ DA) w1):=hm1
    have HB1:Hid (BK B b w w1):=HBW.out.trans hk1
    have HR1:Hid (w1.heap[w.heap.size]?=some (.cells #[.string T,.int .i64 m,.bool false] 385)):=hk1.kept _ _ _ _ HRW.out (by omega) (by decide)
    have HW1:Hid (Wid w1):=HW.out.onB HB1.out hg
    have hB1:B ≤ w1.heap.size:=Nat.le_trans hBw HB1.out.size
    obtain ⟨d0,d1,d2,df⟩:=row3 HR1.out
    clear hm1 hk1
    go_wp2_with fail
    refine (show Calls _ _ _ _ _ from HSZ.out _ HW1.out).mono ?_
    rintro e w2 ⟨rfl,hb2⟩
    have HM2:Hid (MakerAt B b (l ++ DA) w2):=maker_keep HM1.out hb2
    have HB2:Hid (BK B b w w2):=HB1.out.trans (BK.of hb2 hB1)
    have hB2:B ≤ w2.heap.size:=Nat.le_trans hBw HB2.out.size
    clear hb2 d0 d1 d2 df hB1
    go_wp2_with fail
    refine (bsz_any D hd1 (by omega) _).mono ?_
    rintro e w3 ⟨rfl,rfl⟩
    go_wp2
    go_loopw [22] (fun c wr=>∃ i:Nat,i ≤ LM.bsz D∧c=.int .i64 (i:Int)∧MakerAt B b (l ++ DA ++ (LM.back D).take i) wr∧BK B b w wr) (fun c _=>LM.bsz D - (intOf c).toNat)
    case atStart=>exact ⟨0,by omega,rfl,by simpa using HM2.out,HB2.out⟩
    case round =>
      obtain ⟨i,hi,rfl,hm,hb⟩:=hrel
      have HB:Hid (BK B b w wr):=hb
      by_cases hlt:i < LM.bsz D
      · obtain ⟨y,hy⟩:∃ y:Int,((LM.bbyte D (LM.bsz D) i).toNat:Int)=y:=⟨_,rfl⟩
        have HBB:Hid (∀ W,Calls Tryz.prog 346 #[.int .i64 D,.int .i64 (LM.bsz D:Nat),.int .i64 i] W fun e w'=>e=.returned (.int .u8 y)∧w'=W):=fun W=>by
          rw [← hy]; exact bb_any D (LM.bsz D) i (by omega) hb3 hlt W
        have HWB:Hid (Calls Tryz.prog 299 #[.pointer (some ⟨b,0,none⟩),.int .u8 y] (wr.drewN 1) fun e w'=>e=.returned .nilIface∧(MakerAt B b (l ++ DA ++ (LM.back D).take i ++ [LM.bbyte D (LM.bsz D) i]) w'∧BK B b (wr.drewN 1) w')):=wb_eq B b _ (LM.bbyte D (LM.bsz D) i) y hy (wr.drewN 1) (maker_dn hm 1) (by simp only [List.length_append,List.length_take]; have:=LM.back_len D; omega) (by show B ≤ wr.heap.size; exact Nat.le_trans hBw hb.size)
        have HS:Hid _:=back_snoc D i hlt
        clear hm hb hy
        go_wp2_with fail
        go_region_with (first
          | (go_at_call 346; refine (show Calls _ _ _ _ _ from HBB.out _).mono ?_; rintro e w4 ⟨rfl,rfl⟩)
          | (go_at_call 299; refine (show Calls _ _ _ _ _ from HWB.out).mono ?_; rintro e w5 ⟨rfl,hm5,hb5⟩; have HM5:Hid (MakerAt B b _ _):=hm5; have HB5:Hid _:=hb5; clear hm5 hb5))
        all_goals
          go_wp2
          go_roundw
          case rel=>exact ⟨i + 1,hlt,rfl,maker_eq HM5.out (by rw [HS.out]; simp),(HB.out.dn 1).trans HB5.out⟩
          case measure=>simp [intOf]; omega
      · have he:i=LM.bsz D:=by omega
        subst he
        have HMM:Hid (MakerAt B b _ _):=hm
        clear hm hb
        go_wp2
        go_end0
        refine ⟨rfl,maker_eq HMM.out ?_,HB.out⟩
        rw [HE.out,List.take_of_length_le (by rw [LM.back_len]; exact Nat.le_refl _),List.append_assoc]
end Go.Proofs.YtiefeeoellagnaaGreatDoor.S6
namespace Go.Proofs.YtiefeeoellagnaaGreatDoor.S6
open Go.RowKit
set_option linter.unusedVariables false
set_option maxHeartbeats 1000000 in
set_option maxRecDepth 100000 in
theorem newMk (S C:Nat) (hS0:0 < S) (hS:S ≤ 1073741824) (hC:C ≤ 1048576) (w:World) :
    Calls Tryz.prog 295 #[.int .i64 S,.int .i64 C] w fun e w'=>e=.returned (.pointer (some ⟨w.heap.size,0,none⟩))∧(MakerAt w.heap.size w.heap.size (LM.leB 4 (S:Int) ++ LM.leB 2 ((min C 65535:Nat):Int)) w'∧Below w.heap.size w w'):=by
  have HGR:Hid (Calls Tryz.prog 195 #[.pointer (some ⟨w.heap.size,0,none⟩),.int .i64 S] (w.alloc (.cells #[.pointer none,.slice none 0 0] 419)) fun e w'=>e=.returned (.tuple #[])∧(MakerAt w.heap.size w.heap.size [] w'∧Below w.heap.size (w.alloc (.cells #[.pointer none,.slice none 0 0] 419)) w')):=
    Grow_fresh w.heap.size w.heap.size S (w.alloc (.cells #[.pointer none,.slice none 0 0] 419)) (Nat.le_refl _) (one_alloc w _) (by simp) hS0 (by omega)
  have HL1:Hid (∀ W,MakerAt w.heap.size w.heap.size [] W → w.heap.size ≤ W.heap.size → Calls Tryz.prog 343 #[.pointer (some ⟨w.heap.size,0,none⟩),.int .i64 S,.int .i64 4] W fun e w'=>e=.returned (.tuple #[])∧(MakerAt w.heap.size w.heap.size (LM.leB 4 (S:Int)) w'∧BK w.heap.size w.heap.size W w')):=fun W hM hB=>low_mk _ _ [] (S:Int) 4 (by omega) ⟨by omega,by omega⟩ W hM (by simp) hB
  obtain ⟨M,hM⟩:∃ M:Int,min (C:Int) 65535=M:=⟨_,rfl⟩
  have HMM:Hid (M=((min C 65535:Nat):Int)):=by show _=_; omega
  have HL2:Hid (∀ W,MakerAt w.heap.size w.heap.size (LM.leB 4 (S:Int)) W → w.heap.size ≤ W.heap.size → Calls Tryz.prog 343 #[.pointer (some ⟨w.heap.size,0,none⟩),.int .i64 M,.int .i64 2] W fun e w'=>e=.returned (.tuple #[])∧(MakerAt w.heap.size w.heap.size (LM.leB 4 (S:Int) ++ LM.leB 2 M) w'∧BK w.heap.size w.heap.size W w')):=fun W hM hB=>low_mk _ _ (LM.leB 4 (S:Int)) M 2 (by omega) (by rw [HMM.out]; exact ⟨by omega,by omega⟩) W hM (by simp [LM.leB_len]) hB
  go_enter Tryz.func295,Tryz.ntmps295
  go_wp2_with fail
  refine (show Calls _ _ _ _ _ from HGR.out).mono ?_
  rintro e w1 ⟨rfl,hm1,hb1⟩
  have HM1:Hid (MakerAt w.heap.size w.heap.size [] w1):=hm1
  have HB1:Hid (Below w.heap.size w w1):=((Below.refl _ w).alloc (Nat.le_refl _) _).trans hb1
  clear hm1 hb1
  go_wp2_with fail
  refine (show Calls _ _ _ _ _ from HL1.out _ HM1.out HB1.out.size).mono ?_
  rintro e w2 ⟨rfl,hm2,hb2⟩
  have HM2:Hid (MakerAt w.heap.size w.heap.size _ w2):=hm2
  have HB2:Hid (Below w.heap.size w w2):=HB1.out.trans hb2.bel
  clear hm2 hb2
  go_wp2_with fail
  refine (show Calls _ _ _ _ _ from HL2.out _ HM2.out HB2.out.size).mono ?_
  rintro e w3 ⟨rfl,hm3,hb3⟩
  have HM3:Hid (MakerAt w.heap.size w.heap.size _ w3):=hm3
  have HB3:Hid (Below w.heap.size w w3):=HB2.out.trans hb3.bel
  clear hm3 hb3
  go_wp2
  go_ret
  exact ⟨rfl,maker_eq HM3.out (by rw [HMM.out]),HB3.out⟩
end Go.Proofs.YtiefeeoellagnaaGreatDoor.S6
