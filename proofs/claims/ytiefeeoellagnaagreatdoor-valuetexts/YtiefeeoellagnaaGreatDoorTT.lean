import Derived.Test.YtiefeeoellagnaaGreatDoorIC
import Derived.Deep.RegionHeld3
namespace Go.Proofs.YtiefeeoellagnaaGreatDoor.V
open Go.RowKit S5.IM
open S6 (Laid Lay)
set_option linter.unusedVariables false
set_option linter.unusedSimpArgs false
def encT (s:ByteArray):ByteArray:=if (Vi.numberOf s.data.toList).isSome then ⟨#[105,110,116]⟩ else if s.size ≤ 44 then ⟨#[101,109,98,115,116,114]⟩ else ⟨#[114,97,119]⟩
set_option maxHeartbeats 1000000 in
set_option maxRecDepth 20000 in
theorem tx_own (s:ByteArray) (hs:s.size ≤ 524288) (w:World):Calls Tryz.prog 113 #[.string s] w fun e w'=>e=.returned (.string s)∧Below w.heap.size w w':=by
  have HC:Hid _:=S8.clone_any s (by omega) w
  clear hs
  have HB0:Hid (Below w.heap.size w w):=Below.refl _ _
  go_enter Tryz.func113,Tryz.ntmps113
  go_wp2_with fail
  refine (show Calls _ _ _ _ _ from HC.out).mono ?_
  rintro e w1 ⟨rfl,hb1⟩
  have HB1:Hid (Below w.heap.size w w1):=HB0.out.trans (hb1.mono HB0.out.size)
  clear hb1
  go_wp2
  go_ret
  exact ⟨rfl,HB1.out⟩
set_option maxHeartbeats 1000000 in
set_option maxRecDepth 20000 in
theorem tx_Text (bv:Nat) (k:Int) (s:ByteArray) (hs:s.size ≤ 524288) (w:World) (h:w.heap[bv]?=some (vC k (txB s))):Calls Tryz.prog 49 #[.pointer (some ⟨bv,0,none⟩)] w fun e w'=>e=.returned (.tuple #[.string s,.int .i64 0])∧Below w.heap.size w w':=by
  have HA:Hid _:=asText_tx bv k s w h
  have HO:Hid _:=tx_own s hs w
  clear h hs
  go_enter Tryz.func49,Tryz.ntmps49
  go_wp2_with fail
  refine (show Calls _ _ _ _ _ from HA.out).mono ?_
  rintro e w1 ⟨rfl,rfl⟩
  go_wp2_with fail
  refine (show Calls _ _ _ _ _ from HO.out).mono ?_
  rintro e w2 ⟨rfl,hb2⟩
  have HB2:Hid _:=hb2
  clear hb2
  go_wp2
  go_ret2
  exact ⟨rfl,HB2.out⟩
set_option maxHeartbeats 1000000 in
set_option maxRecDepth 20000 in
theorem tx_enc (s:ByteArray) (hs:s.size ≤ 524288) (w:World) (hL:Laid w):Calls Tryz.prog 475 #[.string s] w fun e w'=>e=.returned (.string (encT s))∧Below w.heap.size w w':=by
  have hn:=S6.number_any s (by omega) w hL
  unfold encT
  cases hv:Vi.numberOf s.data.toList with
  | some v =>
    rw [S6.numT_some hv] at hn
    have HN:Hid _:=hn
    clear hn hv hL hs
    go_enter Tryz.func475,Tryz.ntmps475
    go_wp2_with fail
    refine (show Calls _ _ _ _ _ from HN.out).mono ?_
    rintro e w2 ⟨rfl,hb2⟩
    have HB2:Hid _:=hb2
    clear hb2
    go_wp2
    go_ret
    exact ⟨rfl,HB2.out⟩
  | none =>
    rw [S6.numT_none hv] at hn
    have HN:Hid _:=hn
    clear hn hv hL
    by_cases h44:s.size ≤ 44
    · have h4:(s.size:Int) ≤ 44:=by omega
      go_enter Tryz.func475,Tryz.ntmps475
      go_wp2_with fail
      refine (show Calls _ _ _ _ _ from HN.out).mono ?_
      rintro e w2 ⟨rfl,hb2⟩
      have HB2:Hid _:=hb2
      clear hb2
      go_wp2
      go_ret
      exact ⟨by simp [h44],HB2.out⟩
    · have h4:¬ (s.size:Int) ≤ 44:=by omega
      go_enter Tryz.func475,Tryz.ntmps475
      go_wp2_with fail
      refine (show Calls _ _ _ _ _ from HN.out).mono ?_
      rintro e w2 ⟨rfl,hb2⟩
      have HB2:Hid _:=hb2
      clear hb2
      go_wp2
      go_ret
      exact ⟨by simp [h44],HB2.out⟩
set_option maxHeartbeats 1000000 in
set_option maxRecDepth 20000 in
theorem tx_Enc (bv:Nat) (k:Int) (s:ByteArray) (hs:s.size ≤ 524288) (w:World) (hL:Laid w) (h:w.heap[bv]?=some (vC k (txB s))):Calls Tryz.prog 24 #[.pointer (some ⟨bv,0,none⟩)] w fun e w'=>e=.returned (.string (encT s))∧Below w.heap.size w w':=by
  have HE:Hid _:=tx_enc s hs w hL
  unfold vC txB at *
  obtain ⟨c0,c1,cf⟩:=prow2 h
  clear h hs
  go_enter Tryz.func24,Tryz.ntmps24
  go_wp2_with fail
  refine (show Calls _ _ _ _ _ from HE.out).mono ?_
  rintro e w2 ⟨rfl,hb2⟩
  have HB2:Hid _:=hb2
  clear hb2
  go_wp2
  go_ret
  exact ⟨rfl,HB2.out⟩
set_option maxHeartbeats 1000000 in
set_option maxRecDepth 20000 in
theorem tx_Len (bv:Nat) (k:Int) (s:ByteArray) (w:World) (h:w.heap[bv]?=some (vC k (txB s))):Calls Tryz.prog 25 #[.pointer (some ⟨bv,0,none⟩)] w fun e w'=>e=.returned (.int .i64 s.size)∧Below w.heap.size w w':=by
  unfold vC txB at *
  obtain ⟨c0,c1,cf⟩:=prow2 h
  clear h
  go_enter Tryz.func25,Tryz.ntmps25
  go_wp2
  go_returns
  exact ⟨rfl,Below.refl _ _⟩
set_option maxHeartbeats 1000000 in
set_option maxRecDepth 20000 in
theorem tx_raw (s:ByteArray) (hs:s.size ≤ 524288) (w:World):Calls Tryz.prog 476 #[.string s] w fun e w'=>∃ g,e=.returned (.slice (some ⟨g,0,none⟩) 1 1)∧w'.cell? ⟨g,0,none⟩=some (.string s)∧Below w.heap.size w w':=by
  have HC:Hid _:=tx_own s hs w
  clear hs
  go_enter Tryz.func476,Tryz.ntmps476
  go_wp2_with fail
  refine (show Calls _ _ _ _ _ from HC.out).mono ?_
  rintro e w2 ⟨rfl,hb2⟩
  have HB2:Hid _:=hb2
  clear hb2
  go_wp2
  go_returns
  exact ⟨_,rfl,cell_of_row _ _ _ _ _ _ (one_alloc _ _),HB2.out.alloc HB2.out.size _⟩
theorem tx_Raw (bv:Nat) (k:Int) (s:ByteArray) (hs:s.size ≤ 524288) (w:World) (h:w.heap[bv]?=some (vC k (txB s))):Calls Tryz.prog 47 #[.pointer (some ⟨bv,0,none⟩)] w fun e w'=>∃ g,e=.returned (.slice (some ⟨g,0,none⟩) 1 1)∧w'.cell? ⟨g,0,none⟩=some (.string s)∧Below w.heap.size w w':=by
  have HE:Hid _:=tx_raw s hs w
  unfold vC txB at *
  obtain ⟨c0,c1,cf⟩:=prow2 h
  clear h hs
  go_enter Tryz.func47,Tryz.ntmps47
  go_wp2_with fail
  refine (show Calls _ _ _ _ _ from HE.out).mono ?_
  rintro e w2 ⟨g,rfl,hc,hb2⟩
  have HB2:Hid (w2.cell? ⟨g,0,none⟩=some (.string s)∧Below w.heap.size w w2):=⟨hc,hb2⟩
  clear hb2 hc
  go_wp2
  go_ret
  exact ⟨g,rfl,HB2.out⟩
end Go.Proofs.YtiefeeoellagnaaGreatDoor.V
namespace Go.Proofs.YtiefeeoellagnaaGreatDoor.V
open Go.RowKit S5.IM
open S6 (Laid Lay)
set_option linter.unusedVariables false
set_option linter.unusedSimpArgs false
set_option maxRecDepth 20000 in
theorem Push_ref (bv:Nat) (b:Bool) (v:Value) (w:World) (h:Not 78 (.pointer none) bv w):Calls Tryz.prog 30 #[.pointer (some ⟨bv,0,none⟩),.bool b,v] w fun e w'=>e=.returned (.int .i64 4)∧Below w.heap.size w w':=by
  have H:Hid (∀ W,Below w.heap.size w W → Calls Tryz.prog 78 #[.pointer (some ⟨bv,0,none⟩)] W fun e w'=>e=.returned (.tuple #[.pointer none,.int .i64 4])∧w'=W):=h
  clear h
  go_enter Tryz.func30,Tryz.ntmps30
  go_wp2_with fail
  refine (show Calls _ _ _ _ _ from H.out _ (Below.refl _ _)).mono ?_
  rintro e w2 ⟨rfl,rfl⟩
  go_wp2
  go_returns
  exact ⟨rfl,Below.refl _ _⟩
set_option maxRecDepth 20000 in
theorem Pop_ref (bv:Nat) (b:Bool) (n:Int) (w:World) (h:Not 78 (.pointer none) bv w):Calls Tryz.prog 32 #[.pointer (some ⟨bv,0,none⟩),.bool b,.int .i64 n] w fun e w'=>e=.returned (.tuple #[.slice none 0 0,.int .i64 4])∧Below w.heap.size w w':=by
  have H:Hid (∀ W,Below w.heap.size w W → Calls Tryz.prog 78 #[.pointer (some ⟨bv,0,none⟩)] W fun e w'=>e=.returned (.tuple #[.pointer none,.int .i64 4])∧w'=W):=h
  clear h
  go_enter Tryz.func32,Tryz.ntmps32
  go_wp2_with fail
  refine (show Calls _ _ _ _ _ from H.out _ (Below.refl _ _)).mono ?_
  rintro e w2 ⟨rfl,rfl⟩
  go_wp2
  go_returns
  exact ⟨rfl,Below.refl _ _⟩
set_option maxRecDepth 20000 in
theorem SetAt_ref (bv:Nat) (i:Int) (s:ByteArray) (w:World) (h:Not 78 (.pointer none) bv w):Calls Tryz.prog 35 #[.pointer (some ⟨bv,0,none⟩),.int .i64 i,.string s] w fun e w'=>e=.returned (.int .i64 4)∧Below w.heap.size w w':=by
  have H:Hid (∀ W,Below w.heap.size w W → Calls Tryz.prog 78 #[.pointer (some ⟨bv,0,none⟩)] W fun e w'=>e=.returned (.tuple #[.pointer none,.int .i64 4])∧w'=W):=h
  clear h
  go_enter Tryz.func35,Tryz.ntmps35
  go_wp2_with fail
  refine (show Calls _ _ _ _ _ from H.out _ (Below.refl _ _)).mono ?_
  rintro e w2 ⟨rfl,rfl⟩
  go_wp2
  go_returns
  exact ⟨rfl,Below.refl _ _⟩
set_option maxRecDepth 20000 in
theorem Insert_ref (bv:Nat) (i:Int) (s:ByteArray) (w:World) (h:Not 78 (.pointer none) bv w):Calls Tryz.prog 37 #[.pointer (some ⟨bv,0,none⟩),.int .i64 i,.string s] w fun e w'=>e=.returned (.int .i64 4)∧Below w.heap.size w w':=by
  have H:Hid (∀ W,Below w.heap.size w W → Calls Tryz.prog 78 #[.pointer (some ⟨bv,0,none⟩)] W fun e w'=>e=.returned (.tuple #[.pointer none,.int .i64 4])∧w'=W):=h
  clear h
  go_enter Tryz.func37,Tryz.ntmps37
  go_wp2_with fail
  refine (show Calls _ _ _ _ _ from H.out _ (Below.refl _ _)).mono ?_
  rintro e w2 ⟨rfl,rfl⟩
  go_wp2
  go_returns
  exact ⟨rfl,Below.refl _ _⟩
set_option maxRecDepth 20000 in
theorem Remove_ref (bv:Nat) (i n:Int) (w:World) (h:Not 78 (.pointer none) bv w):Calls Tryz.prog 39 #[.pointer (some ⟨bv,0,none⟩),.int .i64 i,.int .i64 n] w fun e w'=>e=.returned (.int .i64 4)∧Below w.heap.size w w':=by
  have H:Hid (∀ W,Below w.heap.size w W → Calls Tryz.prog 78 #[.pointer (some ⟨bv,0,none⟩)] W fun e w'=>e=.returned (.tuple #[.pointer none,.int .i64 4])∧w'=W):=h
  clear h
  go_enter Tryz.func39,Tryz.ntmps39
  go_wp2_with fail
  refine (show Calls _ _ _ _ _ from H.out _ (Below.refl _ _)).mono ?_
  rintro e w2 ⟨rfl,rfl⟩
  go_wp2
  go_returns
  exact ⟨rfl,Below.refl _ _⟩
set_option maxRecDepth 20000 in
theorem Add_ref (bv:Nat) (v:Value) (w:World) (h:Not 67 (.nilIface) bv w):Calls Tryz.prog 20 #[.pointer (some ⟨bv,0,none⟩),v] w fun e w'=>e=.returned (.tuple #[.int .i64 0,.int .i64 4])∧Below w.heap.size w w':=by
  have H:Hid (∀ W,Below w.heap.size w W → Calls Tryz.prog 67 #[.pointer (some ⟨bv,0,none⟩)] W fun e w'=>e=.returned (.tuple #[.nilIface,.int .i64 4])∧w'=W):=h
  clear h
  go_enter Tryz.func20,Tryz.ntmps20
  go_wp2_with fail
  refine (show Calls _ _ _ _ _ from H.out _ (Below.refl _ _)).mono ?_
  rintro e w2 ⟨rfl,rfl⟩
  go_wp2
  go_returns
  exact ⟨rfl,Below.refl _ _⟩
set_option maxRecDepth 20000 in
theorem Drop_ref (bv:Nat) (v:Value) (w:World) (h:Not 67 (.nilIface) bv w):Calls Tryz.prog 96 #[.pointer (some ⟨bv,0,none⟩),v] w fun e w'=>e=.returned (.tuple #[.int .i64 0,.int .i64 4])∧Below w.heap.size w w':=by
  have H:Hid (∀ W,Below w.heap.size w W → Calls Tryz.prog 67 #[.pointer (some ⟨bv,0,none⟩)] W fun e w'=>e=.returned (.tuple #[.nilIface,.int .i64 4])∧w'=W):=h
  clear h
  go_enter Tryz.func96,Tryz.ntmps96
  go_wp2_with fail
  refine (show Calls _ _ _ _ _ from H.out _ (Below.refl _ _)).mono ?_
  rintro e w2 ⟨rfl,rfl⟩
  go_wp2
  go_returns
  exact ⟨rfl,Below.refl _ _⟩
set_option maxRecDepth 20000 in
theorem Put_ref (bv:Nat) (v:Value) (w:World) (h:Not 71 (.nilIface) bv w):Calls Tryz.prog 22 #[.pointer (some ⟨bv,0,none⟩),v] w fun e w'=>e=.returned (.tuple #[.int .i64 0,.int .i64 4])∧Below w.heap.size w w':=by
  have H:Hid (∀ W,Below w.heap.size w W → Calls Tryz.prog 71 #[.pointer (some ⟨bv,0,none⟩)] W fun e w'=>e=.returned (.tuple #[.nilIface,.int .i64 4])∧w'=W):=h
  clear h
  go_enter Tryz.func22,Tryz.ntmps22
  go_wp2_with fail
  refine (show Calls _ _ _ _ _ from H.out _ (Below.refl _ _)).mono ?_
  rintro e w2 ⟨rfl,rfl⟩
  go_wp2
  go_returns
  exact ⟨rfl,Below.refl _ _⟩
set_option maxRecDepth 20000 in
theorem Erase_ref (bv:Nat) (v:Value) (w:World) (h:Not 71 (.nilIface) bv w):Calls Tryz.prog 99 #[.pointer (some ⟨bv,0,none⟩),v] w fun e w'=>e=.returned (.tuple #[.int .i64 0,.int .i64 4])∧Below w.heap.size w w':=by
  have H:Hid (∀ W,Below w.heap.size w W → Calls Tryz.prog 71 #[.pointer (some ⟨bv,0,none⟩)] W fun e w'=>e=.returned (.tuple #[.nilIface,.int .i64 4])∧w'=W):=h
  clear h
  go_enter Tryz.func99,Tryz.ntmps99
  go_wp2_with fail
  refine (show Calls _ _ _ _ _ from H.out _ (Below.refl _ _)).mono ?_
  rintro e w2 ⟨rfl,rfl⟩
  go_wp2
  go_returns
  exact ⟨rfl,Below.refl _ _⟩
set_option maxRecDepth 20000 in
theorem ZAdd_ref (bv:Nat) (v:Value) (w:World) (h:Not 171 (.nilIface) bv w):Calls Tryz.prog 101 #[.pointer (some ⟨bv,0,none⟩),v] w fun e w'=>e=.returned (.tuple #[.int .i64 0,.int .i64 4])∧Below w.heap.size w w':=by
  have H:Hid (∀ W,Below w.heap.size w W → Calls Tryz.prog 171 #[.pointer (some ⟨bv,0,none⟩)] W fun e w'=>e=.returned (.tuple #[.nilIface,.int .i64 4])∧w'=W):=h
  clear h
  go_enter Tryz.func101,Tryz.ntmps101
  go_wp2_with fail
  refine (show Calls _ _ _ _ _ from H.out _ (Below.refl _ _)).mono ?_
  rintro e w2 ⟨rfl,rfl⟩
  go_wp2
  go_returns
  exact ⟨rfl,Below.refl _ _⟩
set_option maxRecDepth 20000 in
theorem ZDrop_ref (bv:Nat) (v:Value) (w:World) (h:Not 171 (.nilIface) bv w):Calls Tryz.prog 103 #[.pointer (some ⟨bv,0,none⟩),v] w fun e w'=>e=.returned (.tuple #[.int .i64 0,.int .i64 4])∧Below w.heap.size w w':=by
  have H:Hid (∀ W,Below w.heap.size w W → Calls Tryz.prog 171 #[.pointer (some ⟨bv,0,none⟩)] W fun e w'=>e=.returned (.tuple #[.nilIface,.int .i64 4])∧w'=W):=h
  clear h
  go_enter Tryz.func103,Tryz.ntmps103
  go_wp2_with fail
  refine (show Calls _ _ _ _ _ from H.out _ (Below.refl _ _)).mono ?_
  rintro e w2 ⟨rfl,rfl⟩
  go_wp2
  go_returns
  exact ⟨rfl,Below.refl _ _⟩
set_option maxRecDepth 20000 in
theorem ByScore_refG (bv:Nat) (x1 x2 y1 y2:Int) (x3 y3:Bool) (i n:Int) (bk:Bool) (w:World) (h:Not 171 (.nilIface) bv w):Calls Tryz.prog 126 #[.pointer (some ⟨bv,0,none⟩),.agg #[.int .i64 x1,.int .i64 x2,.bool x3],.agg #[.int .i64 y1,.int .i64 y2,.bool y3],.bool bk,.int .i64 i,.int .i64 n] w fun e w'=>e=.returned (.tuple #[.slice none 0 0,.int .i64 4])∧Below w.heap.size w w':=by
  have H:Hid (∀ W,Below w.heap.size w W → Calls Tryz.prog 171 #[.pointer (some ⟨bv,0,none⟩)] W fun e w'=>e=.returned (.tuple #[.nilIface,.int .i64 4])∧w'=W):=h
  clear h
  go_enter Tryz.func126,Tryz.ntmps126
  go_wp2_with fail
  refine (show Calls _ _ _ _ _ from H.out _ (((Below.refl _ _).alloc (Nat.le_refl _) _).alloc (by simp) _)).mono ?_
  rintro e w2 ⟨rfl,rfl⟩
  go_wp2
  go_returns
  exact ⟨rfl,(((Below.refl _ _).alloc (Nat.le_refl _) _).alloc (by simp) _)⟩
set_option maxRecDepth 20000 in
theorem ByLex_refG (bv:Nat) (x1 y1:ByteArray) (x2 y2:Int) (x3 y3:Bool) (i n:Int) (bk:Bool) (w:World) (h:Not 171 (.nilIface) bv w):Calls Tryz.prog 128 #[.pointer (some ⟨bv,0,none⟩),.agg #[.string x1,.int .i64 x2,.bool x3],.agg #[.string y1,.int .i64 y2,.bool y3],.bool bk,.int .i64 i,.int .i64 n] w fun e w'=>e=.returned (.tuple #[.slice none 0 0,.int .i64 4])∧Below w.heap.size w w':=by
  have H:Hid (∀ W,Below w.heap.size w W → Calls Tryz.prog 171 #[.pointer (some ⟨bv,0,none⟩)] W fun e w'=>e=.returned (.tuple #[.nilIface,.int .i64 4])∧w'=W):=h
  clear h
  go_enter Tryz.func128,Tryz.ntmps128
  go_wp2_with fail
  refine (show Calls _ _ _ _ _ from H.out _ (((Below.refl _ _).alloc (Nat.le_refl _) _).alloc (by simp) _)).mono ?_
  rintro e w2 ⟨rfl,rfl⟩
  go_wp2
  go_returns
  exact ⟨rfl,(((Below.refl _ _).alloc (Nat.le_refl _) _).alloc (by simp) _)⟩
set_option maxHeartbeats 1000000 in
set_option maxRecDepth 20000 in
theorem SetText_long (bv:Nat) (k:Int) (s x:ByteArray) (hx:524288 < x.size) (w:World) (h:w.heap[bv]?=some (vC k (txB s))):Calls Tryz.prog 27 #[.pointer (some ⟨bv,0,none⟩),.string x] w fun e w'=>e=.returned (.int .i64 2)∧Below w.heap.size w w':=by
  have HA:Hid _:=asText_tx bv k s w h
  have HI:Hid (Calls Tryz.prog 76 #[.string x] w fun e w'=>e=.returned (.bool true)∧w'=w):=by
    have h2:(524288:Int) < (x.size:Int):=by omega
    go_enter Tryz.func76,Tryz.ntmps76
    go_wp2
    go_returns
    exact ⟨rfl,rfl⟩
  have hd:=hx
  clear h hd hx
  go_enter Tryz.func27,Tryz.ntmps27
  go_wp2_with fail
  refine (show Calls _ _ _ _ _ from HA.out).mono ?_
  rintro e w1 ⟨rfl,rfl⟩
  go_wp2_with fail
  refine (show Calls _ _ _ _ _ from HI.out).mono ?_
  rintro e w2 ⟨rfl,rfl⟩
  go_wp2
  go_returns
  exact ⟨rfl,Below.refl _ _⟩
theorem SetText_ok (bv:Nat) (k:Int) (s x:ByteArray) (hx:x.size ≤ 524288) (w:World) (h:w.heap[bv]?=some (vC k (txB s))):Calls Tryz.prog 27 #[.pointer (some ⟨bv,0,none⟩),.string x] w fun e w'=>e=.returned (.int .i64 0)∧w'.heap[bv]?=some (vC k (txB x))∧Mod bv w w':=by
  have HA:Hid _:=asText_tx bv k s w h
  have HI:Hid (Calls Tryz.prog 76 #[.string x] w fun e w'=>e=.returned (.bool false)∧w'=w):=by
    have h2:¬ (524288:Int) < (x.size:Int):=by omega
    go_enter Tryz.func76,Tryz.ntmps76
    go_wp2
    go_returns
    exact ⟨rfl,rfl⟩
  have hd:=hx
  have HC:Hid _:=S8.clone_any x (by omega) w
  have HV:Hid _:=h
  clear h hd hx
  go_enter Tryz.func27,Tryz.ntmps27
  go_wp2_with fail
  refine (show Calls _ _ _ _ _ from HA.out).mono ?_
  rintro e w1 ⟨rfl,rfl⟩
  go_wp2_with fail
  refine (show Calls _ _ _ _ _ from HI.out).mono ?_
  rintro e w2 ⟨rfl,rfl⟩
  go_wp2_with fail
  refine (show Calls _ _ _ _ _ from HC.out).mono ?_
  rintro e w3 ⟨rfl,hb3⟩
  have hr:=keep_row HV.out hb3
  have HR3:Hid _:=hr
  have HM:Hid _:=Mod.of (b:=bv) hb3
  unfold vC at hr
  obtain ⟨c0,c1,cf⟩:=prow2 hr
  clear hr hb3
  go_wp2
  go_returns
  refine ⟨rfl,?_,HM.out.trans (Mod.only ((Only.refl _ _).set _ _))⟩
  rw [heap_setCell_same _ _ _ _ _ _ HR3.out]
  rfl
end Go.Proofs.YtiefeeoellagnaaGreatDoor.V
