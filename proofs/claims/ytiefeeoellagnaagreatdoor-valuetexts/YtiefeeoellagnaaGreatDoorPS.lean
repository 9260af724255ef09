import Derived.Test.YtiefeeoellagnaaGreatDoorTW
import Derived.Test.YtiefeeoellagnaaGreatDoorHD
import Derived.Test.YtiefeeoellagnaaGreatDoorIB
import Derived.Test.YtiefeeoellagnaaGreatDoorTV
import Derived.Deep.RegionHeld3
import Derived.ProofKit
import Derived.OpenShut
import Derived.ShutString
import Derived.SizedLaws
import Derived.ChangeArms
import Derived.SliceStrings
import Derived.Deep.Slices
import Derived.Deep.Grids
import Derived.Carry
import Derived.Lib.ItoaMem
namespace Go.Proofs.YtiefeeoellagnaaGreatDoor.V
open Go.RowKit
open S6 (Laid Lay)
set_option linter.unusedVariables false
set_option linter.unusedSimpArgs false
structure OpD where
  k:Int
  tv:Value
  fv:Value
  sv:Value
  ts:List ByteArray
  fs:List (ByteArray × ByteArray)
  ss:List (ByteArray × Int)
  I:Int
  N:Int
  bk:Bool
  lo:Int × Int × Bool
  hi:Int × Int × Bool
  fr:ByteArray × Int × Bool
  tt:ByteArray × Int × Bool
def opC (o:OpD):List Value:=[.int .i64 o.k,o.tv,o.fv,o.sv,.int .i64 o.I,.int .i64 o.N,.bool o.bk,.int .i64 o.lo.1,.int .i64 o.lo.2.1,.bool o.lo.2.2,.int .i64 o.hi.1,.int .i64 o.hi.2.1,.bool o.hi.2.2,.string o.fr.1,.int .i64 o.fr.2.1,.bool o.fr.2.2,.string o.tt.1,.int .i64 o.tt.2.1,.bool o.tt.2.2]
def opA (o:OpD):Array Value:=(opC o).toArray
def CRow (w:World) (v:Value) (n:Nat) (cs:List Value):Prop:=
  (n=0∧∃ p c,v=.slice p 0 c) ∨ (∃ g o c,v=.slice (some ⟨g,o,none⟩) n c∧∀ j u,cs[j]?=some u → w.cell? ⟨g,o + j,none⟩=some u)
structure OpOk (n0:Nat) (o:OpD) (W:World):Prop where
  t:SRow W o.tv o.ts
  tn:∀ c,o.tv=.slice none 0 c → c=0
  tl:o.ts.length * 16 ≤ 140737488351232
  tu:SOut (fun k=>n0 ≤ k) o.tv o.ts
structure OpAt (n0:Nat) (W:World) (G q:Nat) (o:OpD):Prop where
  cells:W.rangeAt G q (opC o)
  ok:OpOk n0 o W
theorem rangeAt_on {w w':World} {g q:Nat} {cs:List Value} (h:w.rangeAt g q cs) (hb:Below w.heap.size w w'):w'.rangeAt g q cs:=fun j v hv=>cell_on (h j v hv) hb
theorem OpAt.keep {n0:Nat} {W W':World} {G q:Nat} {o:OpD} (h:OpAt n0 W G q o) (hb:Below W.heap.size W W'):OpAt n0 W' G q o:=
  ⟨rangeAt_on h.cells hb,⟨h.ok.t.on hb,h.ok.tn,h.ok.tl,h.ok.tu⟩⟩
theorem opA_k (o:OpD):OPK (opA o) o.k o.tv o.fv o.sv o.I o.N o.bk:=⟨rfl,rfl,rfl,rfl,rfl,rfl,rfl,rfl⟩
theorem opA_g (o:OpD):OPG (opA o) o.tv o.I o.N o.bk o.lo.1 o.lo.2.1 o.hi.1 o.hi.2.1 o.lo.2.2 o.hi.2.2 o.fr.1 o.tt.1 o.fr.2.1 o.tt.2.1 o.fr.2.2 o.tt.2.2:=⟨rfl,rfl,rfl,rfl,rfl,rfl,rfl,rfl,rfl,rfl,rfl,rfl,rfl,rfl,rfl,rfl,rfl⟩
structure Ply (Inv:Nat → Nat → Nat → Array Value → World → Prop):Prop where
  sz:∀ {n0 rv bv C w},Inv n0 rv bv C w → C.size=25∧C.all (·.oneCell')=true
  on:∀ {n0 rv bv C w w'},Inv n0 rv bv C w → Below w.heap.size w w' → Inv n0 rv bv C w'
  st:∀ {n0 rv bv C w w'},Inv n0 rv bv C w → Mod rv w w' → Inv n0 rv bv C w'
  qas:∀ {n0 rv bv C w},Inv n0 rv bv C w → Calls Tryz.prog 10 #[.pointer (some ⟨bv,0,none⟩),.agg C] w fun e w'=>e=.returned (.bool true)∧Below w.heap.size w w'
  asked:∀ {n0 rv bv C w o},Inv n0 rv bv C w → OpOk n0 o w → Calls Tryz.prog 11 #[.pointer (some ⟨bv,0,none⟩),.agg C,.agg (opA o)] w fun e w'=>e=.returned (.bool true)∧Below w.heap.size w w'
  clone:∀ {n0 rv bv C w},Inv n0 rv bv C w → n0 ≤ w.heap.size → rv < w.heap.size → Calls Tryz.prog 8 #[.pointer (some ⟨bv,0,none⟩)] w fun e w'=>∃ b2,e=.returned (.pointer (some ⟨b2,0,none⟩))∧Inv n0 rv b2 C w'∧Below w.heap.size w w'
  changed:∀ {n0 rv bv C w o},Inv n0 rv bv C w → n0 ≤ w.heap.size → rv < w.heap.size → OpOk n0 o w → o.k ≠ 12 → o.k < 13 → Calls Tryz.prog 9 #[.pointer (some ⟨bv,0,none⟩),.agg C,.agg (opA o)] w fun e w'=>∃ C' S,e=.returned (.tuple #[.agg C',.bool true])∧Inv n0 rv bv C' w'∧(∀ k,S k → n0 ≤ k∧k ≠ rv)∧ModS S w w'
theorem yl36o {ops:Array Oper} {S:World → Prop} {op:Oper} {a:Act} (C:Array Value) (r q:Nat) (x:Operand) (ho:op.op=.load 53 x) (hx:a.eval x=.pointer (some ⟨r,q,none⟩)) (hS:∀ w,S w → w.rangeAt r q C.toList) (h19:C.size=19) (hw:Region.wanted op (yielded ops a.tmps)=true:=by rfl):YieldsIf Tryz.prog ops S op (.agg C) a:=by
  have:=yieldsIf_load_mid (P:=Tryz.prog) (ops:=ops) (S:=S) (a:=a) hw 53 x ho r q hx C.toList _ hS Tryz.underlying53 rfl (by rw [Array.length_toList,h19]; exact i36)
  rw [Array.toArray_toList] at this
  exact this
set_option maxHeartbeats 8000000 in
set_option maxRecDepth 20000 in
theorem plays_gen (k:Int) (t:TH) (Inv:Nat → Nat → Nat → Array Value → World → Prop) (hPL:Ply Inv) (C0:Array Value) (ad:Option Addr) (len cap G off:Nat) (had:len ≠ 0 → ad=some ⟨G,off,none⟩) (hlen:len ≤ 9223372036854775807) (w:World) (hL:Lay w) (h25:C0.size=25) (h1:C0.all (·.oneCell')=true)
    (hops:∀ i,i < len → ∃ o,OpAt w.heap.size w G (off + i * 19) o)
    (hN:∀ W,Below w.heap.size w W → Calls Tryz.prog 5 #[.int .i64 k,thV t] W fun e w'=>∃ bv,e=.returned (.tuple #[.pointer (some ⟨bv,0,none⟩),.int .i64 0])∧Below W.heap.size W w'∧∀ W2 rv,Below w'.heap.size w' W2 → w'.heap.size ≤ rv → Inv w.heap.size rv bv C0 W2)
    (hD:∀ W,Calls Tryz.prog 6 #[.int .i64 k,thV t] W fun e w'=>e=.returned (.tuple #[.agg C0,.int .i64 0])∧Below W.heap.size W w') :
    Calls Tryz.prog 4 #[.int .i64 k,thV t,.slice ad len cap] w fun e w'=>e=.returned (.bool true)∧Below w.heap.size w w':=by
  have HN:Hid _:=hN
  have HD:Hid _:=hD
  have HL:Hid _:=hL
  have HPL:Hid (Ply Inv):=hPL
  have HOP:Hid (∀ i,i < len → ∃ o,OpAt w.heap.size w G (off + i * 19) o):=hops
  have HAD:Hid (len ≠ 0 → ad=some ⟨G,off,none⟩):=had
  have h1c:Hid _:=h1
  clear hN hD hL hPL hops had h1
  obtain ⟨a,b,c,d,e,f,g,h,i⟩:=t
  unfold thV at *
  simp only [] at *
  obtain ⟨W1,hW1⟩:∃ W,W=w.alloc (.cells #[.int .i64 a,.int .i64 b,.int .i64 c,.int .i64 d,.int .i64 e,.int .i64 f,.int .i64 g,.int .i64 h,.int .i64 i] 23):=⟨_,rfl⟩
  obtain ⟨r,hr⟩:∃ r,w.heap.size=r:=⟨_,rfl⟩
  have HA:Hid (W1.heap[r]?=some (.cells #[.int .i64 a,.int .i64 b,.int .i64 c,.int .i64 d,.int .i64 e,.int .i64 f,.int .i64 g,.int .i64 h,.int .i64 i] 23)):=by rw [hW1,← hr]; exact one_alloc _ _
  have HB1:Hid (Below w.heap.size w W1):=by rw [hW1]; exact (Below.refl _ _).alloc (Nat.le_refl _) _
  have HRR:Hid (w.heap.size=r):=hr
  clear hr
  go_enter Tryz.func4,Tryz.ntmps4
  go_upto_region 1 with fail
  rw [← hW1,HRR.out]
  clear hW1
  obtain ⟨x0,x1,x2,x3,x4,x5,x6,x7,x8,xf⟩:=row9 HA.out
  go_wp2_with fail
  refine (show Calls _ _ _ _ _ from HN.out _ HB1.out).mono ?_
  rintro e w2 ⟨bv0,rfl,hb2,he2⟩
  have HB2:Hid (Below w.heap.size w w2):=HB1.out.trans (hb2.mono HB1.out.size)
  have HE2:Hid (∀ W2 rv,Below w2.heap.size w2 W2 → w2.heap.size ≤ rv → Inv w.heap.size rv bv0 C0 W2):=he2
  have HA2:Hid _:=keep_row HA.out hb2
  clear x0 x1 x2 x3 x4 x5 x6 x7 x8 xf hb2 he2
  obtain ⟨x0,x1,x2,x3,x4,x5,x6,x7,x8,xf⟩:=row9 HA2.out
  go_wp2_with fail
  refine (show Calls _ _ _ _ _ from HD.out _).mono ?_
  rintro e w3 ⟨rfl,hb3⟩
  have HB23:Hid (Below w2.heap.size w2 w3):=hb3
  have HB3:Hid (Below w.heap.size w w3):=HB2.out.trans (hb3.mono HB2.out.size)
  clear x0 x1 x2 x3 x4 x5 x6 x7 x8 xf hb3
  obtain ⟨Z,hZ⟩:∃ Z,Z=zC:=⟨_,rfl⟩
  have HZZ:Hid (Z=zC):=hZ
  have HZS:Hid (Z.size=25):=by rw [hZ]; rfl
  clear hZ
  go_wp2_with (first | refine alR rfl rfl Z HZZ.out ?_ | (refine stR rfl _ _ rfl w3.heap.size C0 Z rfl rfl h25 h1c.out HZS.out (one_alloc _ _) ?_; intro W4 hr4 hm4))
  obtain ⟨rv,hrv⟩:∃ rv,w3.heap.size=rv:=⟨_,rfl⟩
  rw [hrv]
  have HB34:Hid (Below w3.heap.size w3 W4):=((Below.refl _ _).alloc (Nat.le_refl _) _).trans (hm4.below (Nat.le_refl _) (by simp))
  have HR4:Hid (W4.heap[rv]?=some (.cells C0 42)):=by rw [← hrv]; exact hr4
  have HB4:Hid (Below w.heap.size w W4):=HB3.out.trans (HB34.out.mono HB3.out.size)
  have HE4:Hid (Inv w.heap.size rv bv0 C0 W4):=HE2.out _ _ (HB23.out.trans (HB34.out.mono HB23.out.size)) (by rw [← hrv]; exact HB23.out.size)
  have HNV:Hid (w.heap.size ≤ rv):=by rw [← hrv]; exact HB3.out.size
  clear hrv hr4 hm4
  refine (show Calls _ _ _ _ _ from works_any _ (HL.out.on HB4.out)).mono ?_
  rintro e w5 ⟨rfl,hb5⟩
  have HB5:Hid (Below w.heap.size w w5):=HB4.out.trans (hb5.mono HB4.out.size)
  have HE5:Hid (Inv w.heap.size rv bv0 C0 w5):=HPL.out.on HE4.out hb5
  have HR5:Hid (w5.heap[rv]?=some (.cells C0 42)):=keep_row HR4.out hb5
  clear hb5
  go_wp2
  go_loopw [11,7] (fun ci cv wr=>∃ (i bv:Nat) (C:Array Value),i ≤ len∧ci=.int .i64 (i:Int)∧cv=.pointer (some ⟨bv,0,none⟩)∧Inv w.heap.size rv bv C wr∧wr.heap[rv]?=some (.cells C 42)∧Below w.heap.size w wr) (fun ci _ _=>len - (intOf ci).toNat)
  case atStart=>exact ⟨0,bv0,C0,Nat.zero_le _,rfl,rfl,HE5.out,HR5.out,HB5.out⟩
  case round =>
    obtain ⟨i,bv,C,hi,rfl,rfl,hin,hrr,hbw⟩:=hrel
    by_cases hlt:i < len
    · have hae:=HAD.out (by omega)
      subst hae
      obtain ⟨o,hop⟩:=HOP.out i hlt
      have HAT:Hid (∀ W,Below w.heap.size w W → OpAt w.heap.size W G (off + i * 19) o):=fun W hW=>hop.keep hW
      clear hop
      have hat:=HAT.out _ hbw
      have hk0:wr.cell? ⟨G,off + i * 19,none⟩=some (.int .i64 o.k):=hat.cells 0 _ rfl
      have hC25:C.size=25:=(HPL.out.sz hin).1
      have hi1:(i:Int) < (len:Int):=by omega
      have hi0:(0:Int) ≤ (i:Int):=by omega
      have hiw:IntKind.i64.wrap ((i:Int) + 1)=(i:Int) + 1:=by rw [IntKind.wrap_i64] <;> omega
      by_cases hk:o.k=12
      · rw [hk] at hk0
        have HIN:Hid _:=hin
        have HRW:Hid _:=hrr
        have HBW:Hid _:=hbw
        clear hin hrr hbw hat
        go_wp2_with fail
        refine (show Calls _ _ _ _ _ from HPL.out.clone HIN.out HBW.out.size (row_lt HRW.out)).mono ?_
        rintro e w6 ⟨bz,rfl,hin,hb6⟩
        have hrr:=keep_row HRW.out hb6
        have hbw:=HBW.out.trans (hb6.mono HBW.out.size)
        have hD25:=hC25
        clear hb6 hk0
        go_wp2_with fail
        have hb0:Below w6.heap.size w6 w6.drew:=(Below.refl _ _).drew
        have hin:=HPL.out.on hin hb0
        have hrr:=keep_row hrr hb0
        have hbw:=hbw.trans (hb0.mono hbw.size)
        have hat:=HAT.out _ hbw
        clear hb0
        refine wp_region_held_drew (S:=fun W:World=>W.rangeAt rv 0 C.toList∧W.rangeAt G (off + i * 19) (opC o)) (by kernel_rfl) (⟨fun j v hv=>by rw [cellC hrr]; simpa using hv,hat.cells⟩) (fun hHeld=>?_)
        refine wpAnyH_take (i:=0) (oi:={ dst:=some 75,op:=Op.move (Operand.tmp 12),type:=4,pos:= "law.go:249",after:=#[],guard:=none }) (v:=.bool true) rfl (by kernel_rfl) (by kernel_rfl) (by kernel_rfl) (fun _ _ _ h=>h) (Or.inl ⟨by rfl,?y0⟩) (by assumption) ?_
        case y0=>(intro w hSw; (try dsimp only at hSw); first | (go_simp; done) | (go_simp; with_reducible rfl) | (go_simp; rfl))
        try simp only [Act.put,List.setIfInBounds_toArray,List.set_cons_zero,List.set_cons_succ]
        refine wpAnyH_take (i:=1) (oi:={ dst:=some 76,op:=Op.unOp UnOp.not 4 (Operand.tmp 75),type:=4,pos:= "law.go:249",after:=#[{ on:=0,ground:=Ground.data }],guard:=none }) (v:=.bool false) rfl (by kernel_rfl) (by kernel_rfl) (by kernel_rfl) (fun _ _ _ h=>h) (Or.inl ⟨by rfl,?y1⟩) (by assumption) ?_
        case y1=>(intro w hSw; (try dsimp only at hSw); first | (go_simp; done) | (go_simp; with_reducible rfl) | (go_simp; rfl))
        try simp only [Act.put,List.setIfInBounds_toArray,List.set_cons_zero,List.set_cons_succ]
        refine wpAnyH_take (i:=2) (oi:={ dst:=some 77,op:=Op.move (Operand.tmp 76),type:=4,pos:= "law.go:249",after:=#[{ on:=1,ground:=Ground.data }],guard:=none }) (v:=.bool false) rfl (by kernel_rfl) (by kernel_rfl) (by kernel_rfl) (fun _ _ _ h=>h) (Or.inl ⟨by rfl,?y2⟩) (by assumption) ?_
        case y2=>(intro w hSw; (try dsimp only at hSw); first | (go_simp; done) | (go_simp; with_reducible rfl) | (go_simp; rfl))
        try simp only [Act.put,List.setIfInBounds_toArray,List.set_cons_zero,List.set_cons_succ]
        refine wpAnyH_take (i:=3) (oi:={ dst:=some 78,op:=Op.move (Operand.tmp 7),type:=27,pos:= "law.go:249",after:=#[{ on:=2,ground:=Ground.guard }],guard:=some (2,false) }) (v:=.pointer (some ⟨bz,0,none⟩)) rfl (by kernel_rfl) (by kernel_rfl) (by kernel_rfl) (fun _ _ _ h=>h) (Or.inl ⟨by rfl,?y3⟩) (by assumption) ?_
        case y3=>(intro w hSw; (try dsimp only at hSw); first | (go_simp; done) | (go_simp; with_reducible rfl) | (go_simp; rfl))
        try simp only [Act.put,List.setIfInBounds_toArray,List.set_cons_zero,List.set_cons_succ]
        refine wpAnyH_take (i:=4) (oi:={ dst:=some 79,op:=Op.load 42 (Operand.tmp 9),type:=42,pos:= "law.go:249",after:=#[{ on:=2,ground:=Ground.guard }],guard:=some (2,false) }) (v:=.agg C) rfl (by kernel_rfl) (by kernel_rfl) (by kernel_rfl) (fun _ _ _ h=>h) (yl53 C rv _ rfl rfl (fun _ h=>h.1) hD25) (by assumption) ?_
        try simp only [Act.put,List.setIfInBounds_toArray,List.set_cons_zero,List.set_cons_succ]
        refine wpAnyH_ready (rs:=[5]) (by kernel_rfl) (by simp) ?_
        refine AllReadyH.cons (o:={ dst:=some 80,op:=Op.call { callee:=Callee.value (Operand.func 10),args:=#[Operand.tmp 78,Operand.tmp 79],argTypes:=#[27,42] },type:=4,pos:= "law.go:249",after:=#[{ on:=3,ground:=Ground.data },{ on:=4,ground:=Ground.data },{ on:=2,ground:=Ground.chain },{ on:=2,ground:=Ground.guard }],guard:=some (2,false) }) rfl (fun K hK=>?_) AllReadyH.nil
        first | (go_at_call 10; refine (show Calls _ _ _ _ _ from HPL.out.qas hin).mono ?_; rintro e a1 ⟨rfl,hb1⟩; have hin:=HPL.out.on hin hb1; have hrr:=keep_row hrr hb1; have hbw:=hbw.trans (hb1.mono hbw.size); have hat:=HAT.out _ hbw) | (go_simp; go_at_call 10; refine (show Calls _ _ _ _ _ from HPL.out.qas hin).mono ?_; rintro e a1 ⟨rfl,hb1⟩; have hin:=HPL.out.on hin hb1; have hrr:=keep_row hrr hb1; have hbw:=hbw.trans (hb1.mono hbw.size); have hat:=HAT.out _ hbw)
        refine hK.out _ _ (⟨fun j v hv=>by rw [cellC hrr]; simpa using hv,hat.cells⟩) (fun hHeld=>?_)
        clear hK K
        try simp only [Act.put,List.setIfInBounds_toArray,List.set_cons_zero,List.set_cons_succ]
        refine wpAnyH_take (i:=6) (oi:={ dst:=some 81,op:=Op.unOp UnOp.not 4 (Operand.tmp 80),type:=4,pos:= "law.go:249",after:=#[{ on:=5,ground:=Ground.data },{ on:=2,ground:=Ground.guard }],guard:=some (2,false) }) (v:=.bool false) rfl (by kernel_rfl) (by kernel_rfl) (by kernel_rfl) (fun _ _ _ h=>h) (Or.inl ⟨by rfl,?y6⟩) (by assumption) ?_
        case y6=>(intro w hSw; (try dsimp only at hSw); first | (go_simp; done) | (go_simp; with_reducible rfl) | (go_simp; rfl))
        try simp only [Act.put,List.setIfInBounds_toArray,List.set_cons_zero,List.set_cons_succ]
        refine wpAnyH_take (i:=7) (oi:={ dst:=some 82,op:=Op.pick (Operand.tmp 77) (Operand.const (Value.bool true)) (Operand.tmp 81),type:=4,pos:= "law.go:249",after:=#[{ on:=2,ground:=Ground.data },{ on:=6,ground:=Ground.data }],guard:=none }) (v:=.bool false) rfl (by kernel_rfl) (by kernel_rfl) (by kernel_rfl) (fun _ _ _ h=>h) (Or.inl ⟨by rfl,?y7⟩) (by assumption) ?_
        case y7=>(intro w hSw; (try dsimp only at hSw); first | (go_simp; done) | (go_simp; with_reducible rfl) | (go_simp; rfl))
        try simp only [Act.put,List.setIfInBounds_toArray,List.set_cons_zero,List.set_cons_succ]
        refine wpAnyH_take (i:=8) (oi:={ dst:=some 83,op:=Op.move (Operand.tmp 82),type:=4,pos:= "law.go:249",after:=#[{ on:=7,ground:=Ground.data },{ on:=5,ground:=Ground.chain }],guard:=none }) (v:=.bool false) rfl (by kernel_rfl) (by kernel_rfl) (by kernel_rfl) (fun _ _ _ h=>h) (Or.inl ⟨by rfl,?y8⟩) (by assumption) ?_
        case y8=>(intro w hSw; (try dsimp only at hSw); first | (go_simp; done) | (go_simp; with_reducible rfl) | (go_simp; rfl))
        try simp only [Act.put,List.setIfInBounds_toArray,List.set_cons_zero,List.set_cons_succ]
        refine wpAnyH_take (i:=9) (oi:={ dst:=some 84,op:=Op.move (Operand.tmp 7),type:=27,pos:= "law.go:249",after:=#[{ on:=8,ground:=Ground.guard }],guard:=some (8,false) }) (v:=.pointer (some ⟨bz,0,none⟩)) rfl (by kernel_rfl) (by kernel_rfl) (by kernel_rfl) (fun _ _ _ h=>h) (Or.inl ⟨by rfl,?y9⟩) (by assumption) ?_
        case y9=>(intro w hSw; (try dsimp only at hSw); first | (go_simp; done) | (go_simp; with_reducible rfl) | (go_simp; rfl))
        try simp only [Act.put,List.setIfInBounds_toArray,List.set_cons_zero,List.set_cons_succ]
        refine wpAnyH_take (i:=10) (oi:={ dst:=some 85,op:=Op.load 42 (Operand.tmp 9),type:=42,pos:= "law.go:249",after:=#[{ on:=8,ground:=Ground.guard }],guard:=some (8,false) }) (v:=.agg C) rfl (by kernel_rfl) (by kernel_rfl) (by kernel_rfl) (fun _ _ _ h=>h) (yl53 C rv _ rfl rfl (fun _ h=>h.1) hD25) (by assumption) ?_
        try simp only [Act.put,List.setIfInBounds_toArray,List.set_cons_zero,List.set_cons_succ]
        refine wpAnyH_take (i:=11) (oi:={ dst:=some 86,op:=Op.move (Operand.tmp 2),type:=24,pos:= "law.go:249",after:=#[{ on:=8,ground:=Ground.guard }],guard:=some (8,false) }) (v:=.slice (some ⟨G,off,none⟩) len cap) rfl (by kernel_rfl) (by kernel_rfl) (by kernel_rfl) (fun _ _ _ h=>h) (Or.inl ⟨by rfl,?y11⟩) (by assumption) ?_
        case y11=>(intro w hSw; (try dsimp only at hSw); first | (go_simp; done) | (go_simp; with_reducible rfl) | (go_simp; rfl))
        try simp only [Act.put,List.setIfInBounds_toArray,List.set_cons_zero,List.set_cons_succ]
        refine wpAnyH_take (i:=12) (oi:={ dst:=some 87,op:=Op.move (Operand.tmp 11),type:=3,pos:= "law.go:249",after:=#[{ on:=8,ground:=Ground.guard }],guard:=some (8,false) }) (v:=.int .i64 (i:Int)) rfl (by kernel_rfl) (by kernel_rfl) (by kernel_rfl) (fun _ _ _ h=>h) (Or.inl ⟨by rfl,?y12⟩) (by assumption) ?_
        case y12=>(intro w hSw; (try dsimp only at hSw); first | (go_simp; done) | (go_simp; with_reducible rfl) | (go_simp; rfl))
        try simp only [Act.put,List.setIfInBounds_toArray,List.set_cons_zero,List.set_cons_succ]
        refine wpAnyH_take (i:=13) (oi:={ dst:=some 88,op:=Op.indexAddr 24 (Operand.tmp 86) (Operand.tmp 87),type:=0,pos:= "law.go:249",after:=#[{ on:=11,ground:=Ground.data },{ on:=12,ground:=Ground.data },{ on:=8,ground:=Ground.guard }],guard:=some (8,false) }) (v:=.pointer (some ⟨G,off + i * 19,none⟩)) rfl (by kernel_rfl) (by kernel_rfl) (by kernel_rfl) (fun _ _ _ h=>h) (Or.inl ⟨by rfl,?y13⟩) (by assumption) ?_
        case y13=>(intro w hSw; (try dsimp only at hSw); first | (go_simp; done) | (go_simp; with_reducible rfl) | (go_simp; rfl))
        try simp only [Act.put,List.setIfInBounds_toArray,List.set_cons_zero,List.set_cons_succ]
        refine wpAnyH_take (i:=14) (oi:={ dst:=some 89,op:=Op.load 53 (Operand.tmp 88),type:=53,pos:= "law.go:249",after:=#[{ on:=13,ground:=Ground.data },{ on:=8,ground:=Ground.guard }],guard:=some (8,false) }) (v:=.agg (opA o)) rfl (by kernel_rfl) (by kernel_rfl) (by kernel_rfl) (fun _ _ _ h=>h) (yl36o (opA o) G (off + i * 19) _ rfl rfl (fun _ h=>h.2) rfl) (by assumption) ?_
        try simp only [Act.put,List.setIfInBounds_toArray,List.set_cons_zero,List.set_cons_succ]
        refine wpAnyH_ready (rs:=[15]) (by kernel_rfl) (by simp) ?_
        refine AllReadyH.cons (o:={ dst:=some 90,op:=Op.call { callee:=Callee.value (Operand.func 11),args:=#[Operand.tmp 84,Operand.tmp 85,Operand.tmp 89],argTypes:=#[27,42,53] },type:=4,pos:= "law.go:249",after:=#[{ on:=9,ground:=Ground.data },{ on:=10,ground:=Ground.data },{ on:=14,ground:=Ground.data },{ on:=8,ground:=Ground.chain },{ on:=8,ground:=Ground.guard }],guard:=some (8,false) }) rfl (fun K hK=>?_) AllReadyH.nil
        first | (go_at_call 11; refine (show Calls _ _ _ _ _ from HPL.out.asked hin hat.ok).mono ?_; rintro e a2 ⟨rfl,hb1⟩; have hin:=HPL.out.on hin hb1; have hrr:=keep_row hrr hb1; have hbw:=hbw.trans (hb1.mono hbw.size); have hat:=HAT.out _ hbw) | (go_simp; go_at_call 11; refine (show Calls _ _ _ _ _ from HPL.out.asked hin hat.ok).mono ?_; rintro e a2 ⟨rfl,hb1⟩; have hin:=HPL.out.on hin hb1; have hrr:=keep_row hrr hb1; have hbw:=hbw.trans (hb1.mono hbw.size); have hat:=HAT.out _ hbw)
        refine hK.out _ _ (⟨fun j v hv=>by rw [cellC hrr]; simpa using hv,hat.cells⟩) (fun hHeld=>?_)
        clear hK K
        try simp only [Act.put,List.setIfInBounds_toArray,List.set_cons_zero,List.set_cons_succ]
        refine wpAnyH_take (i:=16) (oi:={ dst:=some 91,op:=Op.unOp UnOp.not 4 (Operand.tmp 90),type:=4,pos:= "law.go:249",after:=#[{ on:=15,ground:=Ground.data },{ on:=8,ground:=Ground.guard }],guard:=some (8,false) }) (v:=.bool false) rfl (by kernel_rfl) (by kernel_rfl) (by kernel_rfl) (fun _ _ _ h=>h) (Or.inl ⟨by rfl,?y16⟩) (by assumption) ?_
        case y16=>(intro w hSw; (try dsimp only at hSw); first | (go_simp; done) | (go_simp; with_reducible rfl) | (go_simp; rfl))
        try simp only [Act.put,List.setIfInBounds_toArray,List.set_cons_zero,List.set_cons_succ]
        refine wpAnyH_take (i:=17) (oi:={ dst:=some 92,op:=Op.pick (Operand.tmp 83) (Operand.const (Value.bool true)) (Operand.tmp 91),type:=4,pos:= "law.go:249",after:=#[{ on:=8,ground:=Ground.data },{ on:=16,ground:=Ground.data }],guard:=none }) (v:=.bool false) rfl (by kernel_rfl) (by kernel_rfl) (by kernel_rfl) (fun _ _ _ h=>h) (Or.inl ⟨by rfl,?y17⟩) (by assumption) ?_
        case y17=>(intro w hSw; (try dsimp only at hSw); first | (go_simp; done) | (go_simp; with_reducible rfl) | (go_simp; rfl))
        try simp only [Act.put,List.setIfInBounds_toArray,List.set_cons_zero,List.set_cons_succ]
        refine wpAnyH_done (by kernel_rfl) ?_ _
        go_wp2
        go_roundw
        case rel=>exact ⟨i + 1,bz,C,hlt,rfl,rfl,hin,hrr,hbw⟩
        case measure=>simp [intOf]; omega
      · by_cases hk3:o.k < 13
        · have hk12:Hid (o.k ≠ 12):=hk
          have hk13:Hid (o.k < 13):=hk3
          have hkb:(o.k == 12)=false:=by rw [beq_eq_false_iff_ne]; exact hk
          obtain ⟨kk,hkk⟩:∃ kk,o.k=kk:=⟨_,rfl⟩
          rw [hkk] at hkb hk3 hk0
          clear hk hkk hat
          go_wp2_with fail
          clear hk0 hkb hk3
          have hb0:Below wr.heap.size wr wr.drew:=(Below.refl _ _).drew
          have hin:=HPL.out.on hin hb0
          have hrr:=keep_row hrr hb0
          have hbw:=hbw.trans (hb0.mono hbw.size)
          have hat:=HAT.out _ hbw
          clear hb0
          refine wp_region_held_drew (S:=fun W:World=>W.rangeAt G (off + i * 19) (opC o)) (by kernel_rfl) (hat.cells) (fun hHeld=>?_)
          refine wpAnyH_take (i:=0) (oi:={ dst:=some 66,op:=Op.move (Operand.tmp 7),type:=27,pos:= "law.go:247",after:=#[],guard:=none }) (v:=.pointer (some ⟨bv,0,none⟩)) rfl (by kernel_rfl) (by kernel_rfl) (by kernel_rfl) (fun _ _ _ h=>h) (Or.inl ⟨by rfl,?y0⟩) (by assumption) ?_
          case y0=>(intro w hSw; (try dsimp only at hSw); first | (go_simp; done) | (go_simp; with_reducible rfl) | (go_simp; rfl))
          try simp only [Act.put,List.setIfInBounds_toArray,List.set_cons_zero,List.set_cons_succ]
          refine wpAnyH_take (i:=2) (oi:={ dst:=some 68,op:=Op.move (Operand.tmp 2),type:=24,pos:= "law.go:247",after:=#[],guard:=none }) (v:=.slice (some ⟨G,off,none⟩) len cap) rfl (by kernel_rfl) (by kernel_rfl) (by kernel_rfl) (fun _ _ _ h=>h) (Or.inl ⟨by rfl,?y2⟩) (by assumption) ?_
          case y2=>(intro w hSw; (try dsimp only at hSw); first | (go_simp; done) | (go_simp; with_reducible rfl) | (go_simp; rfl))
          try simp only [Act.put,List.setIfInBounds_toArray,List.set_cons_zero,List.set_cons_succ]
          refine wpAnyH_take (i:=3) (oi:={ dst:=some 69,op:=Op.move (Operand.tmp 11),type:=3,pos:= "law.go:247",after:=#[],guard:=none }) (v:=.int .i64 (i:Int)) rfl (by kernel_rfl) (by kernel_rfl) (by kernel_rfl) (fun _ _ _ h=>h) (Or.inl ⟨by rfl,?y3⟩) (by assumption) ?_
          case y3=>(intro w hSw; (try dsimp only at hSw); first | (go_simp; done) | (go_simp; with_reducible rfl) | (go_simp; rfl))
          try simp only [Act.put,List.setIfInBounds_toArray,List.set_cons_zero,List.set_cons_succ]
          refine wpAnyH_take (i:=4) (oi:={ dst:=some 70,op:=Op.indexAddr 24 (Operand.tmp 68) (Operand.tmp 69),type:=0,pos:= "law.go:247",after:=#[{ on:=2,ground:=Ground.data },{ on:=3,ground:=Ground.data }],guard:=none }) (v:=.pointer (some ⟨G,off + i * 19,none⟩)) rfl (by kernel_rfl) (by kernel_rfl) (by kernel_rfl) (fun _ _ _ h=>h) (Or.inl ⟨by rfl,?y4⟩) (by assumption) ?_
          case y4=>(intro w hSw; (try dsimp only at hSw); first | (go_simp; done) | (go_simp; with_reducible rfl) | (go_simp; rfl))
          try simp only [Act.put,List.setIfInBounds_toArray,List.set_cons_zero,List.set_cons_succ]
          refine wpAnyH_take (i:=5) (oi:={ dst:=some 71,op:=Op.load 53 (Operand.tmp 70),type:=53,pos:= "law.go:247",after:=#[{ on:=4,ground:=Ground.data }],guard:=none }) (v:=.agg (opA o)) rfl (by kernel_rfl) (by kernel_rfl) (by kernel_rfl) (fun _ _ _ h=>h) (yl36o (opA o) G (off + i * 19) _ rfl rfl (fun _ h=>h) rfl) (by assumption) ?_
          try simp only [Act.put,List.setIfInBounds_toArray,List.set_cons_zero,List.set_cons_succ]
          refine wpAnyH_ready (rs:=[1]) (by kernel_rfl) (by simp) ?_
          refine AllReadyH.cons (o:={ dst:=some 67,op:=Op.load 42 (Operand.tmp 9),type:=42,pos:= "law.go:247",after:=#[],guard:=none }) rfl (fun K hK=>?_) AllReadyH.nil
          refine rdyL C rv _ (by rfl) rfl rfl (fun j v hv=>by rw [cellC hrr]; simpa using hv) hC25 ?_
          refine hK.out _ _ (hat.cells) (fun hHeld=>?_)
          clear hK K
          try simp only [Act.put,List.setIfInBounds_toArray,List.set_cons_zero,List.set_cons_succ]
          refine wpAnyH_ready (rs:=[6]) (by kernel_rfl) (by simp) ?_
          refine AllReadyH.cons (o:={ dst:=some 72,op:=Op.call { callee:=Callee.value (Operand.func 9),args:=#[Operand.tmp 66,Operand.tmp 67,Operand.tmp 71],argTypes:=#[27,42,53] },type:=55,pos:= "law.go:247",after:=#[{ on:=0,ground:=Ground.data },{ on:=1,ground:=Ground.data },{ on:=5,ground:=Ground.data }],guard:=none }) rfl (fun K hK=>?_) AllReadyH.nil
          first | (go_at_call 9; refine (show Calls _ _ _ _ _ from HPL.out.changed hin hbw.size (row_lt hrr) hat.ok hk12.out hk13.out).mono ?_; rintro e a1 ⟨D,S,rfl,hin,hSS,hmS⟩; have hrr:=hmS.row hrr (fun e=>(hSS _ e).2 rfl); have hbw:=hbw.trans (hmS.below (fun k e=>(hSS _ e).1) hbw.size); have hat:=HAT.out _ hbw; have hD25:=(HPL.out.sz hin).1; have hD1:=(HPL.out.sz hin).2) | (go_simp; go_at_call 9; refine (show Calls _ _ _ _ _ from HPL.out.changed hin hbw.size (row_lt hrr) hat.ok hk12.out hk13.out).mono ?_; rintro e a1 ⟨D,S,rfl,hin,hSS,hmS⟩; have hrr:=hmS.row hrr (fun e=>(hSS _ e).2 rfl); have hbw:=hbw.trans (hmS.below (fun k e=>(hSS _ e).1) hbw.size); have hat:=HAT.out _ hbw; have hD25:=(HPL.out.sz hin).1; have hD1:=(HPL.out.sz hin).2)
          refine hK.out _ _ (hat.cells) (fun hHeld=>?_)
          clear hK K
          try simp only [Act.put,List.setIfInBounds_toArray,List.set_cons_zero,List.set_cons_succ]
          refine wpAnyH_take (i:=7) (oi:={ dst:=some 65,op:=Op.move (Operand.tmp 72),type:=55,pos:= "law.go:247",after:=#[{ on:=6,ground:=Ground.data }],guard:=none }) (v:=.tuple #[.agg D,.bool true]) rfl (by kernel_rfl) (by kernel_rfl) (by kernel_rfl) (fun _ _ _ h=>h) (Or.inl ⟨by rfl,?y7⟩) (by assumption) ?_
          case y7=>(intro w hSw; (try dsimp only at hSw); first | (go_simp; done) | (go_simp; with_reducible rfl) | (go_simp; rfl))
          try simp only [Act.put,List.setIfInBounds_toArray,List.set_cons_zero,List.set_cons_succ]
          refine wpAnyH_take (i:=8) (oi:={ dst:=some 73,op:=Op.extract (Operand.tmp 65) 0,type:=42,pos:= "law.go:247",after:=#[{ on:=7,ground:=Ground.data }],guard:=none }) (v:=.agg D) rfl (by kernel_rfl) (by kernel_rfl) (by kernel_rfl) (fun _ _ _ h=>h) (Or.inl ⟨by rfl,?y8⟩) (by assumption) ?_
          case y8=>(intro w hSw; (try dsimp only at hSw); first | (go_simp; done) | (go_simp; with_reducible rfl) | (go_simp; rfl))
          try simp only [Act.put,List.setIfInBounds_toArray,List.set_cons_zero,List.set_cons_succ]
          refine wpAnyH_take (i:=9) (oi:={ dst:=some 74,op:=Op.extract (Operand.tmp 65) 1,type:=4,pos:= "law.go:247",after:=#[{ on:=7,ground:=Ground.data },{ on:=10,ground:=Ground.gcOnly Departure.lateStores }],guard:=none }) (v:=.bool true) rfl (by kernel_rfl) (by kernel_rfl) (by kernel_rfl) (fun _ _ _ h=>h) (Or.inl ⟨by rfl,?y9⟩) (by assumption) ?_
          case y9=>(intro w hSw; (try dsimp only at hSw); first | (go_simp; done) | (go_simp; with_reducible rfl) | (go_simp; rfl))
          try simp only [Act.put,List.setIfInBounds_toArray,List.set_cons_zero,List.set_cons_succ]
          refine wpAnyH_ready (rs:=[10]) (by kernel_rfl) (by simp) ?_
          refine AllReadyH.cons (o:={ dst:=none,op:=Op.store 42 (Operand.tmp 9) (Operand.tmp 73),type:=0,pos:= "law.go:247",after:=#[{ on:=8,ground:=Ground.data },{ on:=6,ground:=Ground.chain },{ on:=0,ground:=Ground.phase },{ on:=1,ground:=Ground.phase },{ on:=2,ground:=Ground.phase },{ on:=3,ground:=Ground.phase },{ on:=4,ground:=Ground.phase },{ on:=5,ground:=Ground.phase },{ on:=6,ground:=Ground.phase },{ on:=7,ground:=Ground.phase },{ on:=8,ground:=Ground.phase },{ on:=9,ground:=Ground.textOnly Departure.lateStores }],guard:=none }) rfl (fun K hK=>?_) AllReadyH.nil
          refine rdyS rv D C _ _ (by rfl) rfl rfl rfl hD25 hD1 hC25 hrr ?_; intro W5 hr5 hm5; have hin:=HPL.out.st hin hm5; have hbw:=hbw.trans (hm5.below HNV.out hbw.size); have hat:=HAT.out _ hbw; have hrr:=hr5
          refine hK.out _ _ (hat.cells) (fun hHeld=>?_)
          clear hK K
          try simp only [Act.put,List.setIfInBounds_toArray,List.set_cons_zero,List.set_cons_succ]
          refine wpAnyH_take (i:=11) (oi:={ dst:=some 12,op:=Op.assign (Operand.tmp 74),type:=4,pos:= "law.go:247",after:=#[{ on:=9,ground:=Ground.data },{ on:=10,ground:=Ground.chain },{ on:=0,ground:=Ground.phase },{ on:=1,ground:=Ground.phase },{ on:=2,ground:=Ground.phase },{ on:=3,ground:=Ground.phase },{ on:=4,ground:=Ground.phase },{ on:=5,ground:=Ground.phase },{ on:=6,ground:=Ground.phase },{ on:=7,ground:=Ground.phase },{ on:=8,ground:=Ground.phase },{ on:=9,ground:=Ground.phase },{ on:=10,ground:=Ground.phase }],guard:=none }) (v:=.bool true) rfl (by kernel_rfl) (by kernel_rfl) (by kernel_rfl) (fun _ _ _ h=>h) (Or.inl ⟨by rfl,?y11⟩) (by assumption) ?_
          case y11=>(intro w hSw; (try dsimp only at hSw); first | (go_simp; done) | (go_simp; with_reducible rfl) | (go_simp; rfl))
          try simp only [Act.put,List.setIfInBounds_toArray,List.set_cons_zero,List.set_cons_succ]
          refine wpAnyH_done (by kernel_rfl) ?_ _
          go_wp2_with fail
          have hb0:Below W5.heap.size W5 W5.drew:=(Below.refl _ _).drew
          have hin:=HPL.out.on hin hb0
          have hrr:=keep_row hrr hb0
          have hbw:=hbw.trans (hb0.mono hbw.size)
          have hat:=HAT.out _ hbw
          clear hb0
          refine wp_region_held_drew (S:=fun W:World=>W.rangeAt rv 0 D.toList∧W.rangeAt G (off + i * 19) (opC o)) (by kernel_rfl) (⟨fun j v hv=>by rw [cellC hrr]; simpa using hv,hat.cells⟩) (fun hHeld=>?_)
          refine wpAnyH_take (i:=0) (oi:={ dst:=some 75,op:=Op.move (Operand.tmp 12),type:=4,pos:= "law.go:249",after:=#[],guard:=none }) (v:=.bool true) rfl (by kernel_rfl) (by kernel_rfl) (by kernel_rfl) (fun _ _ _ h=>h) (Or.inl ⟨by rfl,?y0⟩) (by assumption) ?_
          case y0=>(intro w hSw; (try dsimp only at hSw); first | (go_simp; done) | (go_simp; with_reducible rfl) | (go_simp; rfl))
          try simp only [Act.put,List.setIfInBounds_toArray,List.set_cons_zero,List.set_cons_succ]
          refine wpAnyH_take (i:=1) (oi:={ dst:=some 76,op:=Op.unOp UnOp.not 4 (Operand.tmp 75),type:=4,pos:= "law.go:249",after:=#[{ on:=0,ground:=Ground.data }],guard:=none }) (v:=.bool false) rfl (by kernel_rfl) (by kernel_rfl) (by kernel_rfl) (fun _ _ _ h=>h) (Or.inl ⟨by rfl,?y1⟩) (by assumption) ?_
          case y1=>(intro w hSw; (try dsimp only at hSw); first | (go_simp; done) | (go_simp; with_reducible rfl) | (go_simp; rfl))
          try simp only [Act.put,List.setIfInBounds_toArray,List.set_cons_zero,List.set_cons_succ]
          refine wpAnyH_take (i:=2) (oi:={ dst:=some 77,op:=Op.move (Operand.tmp 76),type:=4,pos:= "law.go:249",after:=#[{ on:=1,ground:=Ground.data }],guard:=none }) (v:=.bool false) rfl (by kernel_rfl) (by kernel_rfl) (by kernel_rfl) (fun _ _ _ h=>h) (Or.inl ⟨by rfl,?y2⟩) (by assumption) ?_
          case y2=>(intro w hSw; (try dsimp only at hSw); first | (go_simp; done) | (go_simp; with_reducible rfl) | (go_simp; rfl))
          try simp only [Act.put,List.setIfInBounds_toArray,List.set_cons_zero,List.set_cons_succ]
          refine wpAnyH_take (i:=3) (oi:={ dst:=some 78,op:=Op.move (Operand.tmp 7),type:=27,pos:= "law.go:249",after:=#[{ on:=2,ground:=Ground.guard }],guard:=some (2,false) }) (v:=.pointer (some ⟨bv,0,none⟩)) rfl (by kernel_rfl) (by kernel_rfl) (by kernel_rfl) (fun _ _ _ h=>h) (Or.inl ⟨by rfl,?y3⟩) (by assumption) ?_
          case y3=>(intro w hSw; (try dsimp only at hSw); first | (go_simp; done) | (go_simp; with_reducible rfl) | (go_simp; rfl))
          try simp only [Act.put,List.setIfInBounds_toArray,List.set_cons_zero,List.set_cons_succ]
          refine wpAnyH_take (i:=4) (oi:={ dst:=some 79,op:=Op.load 42 (Operand.tmp 9),type:=42,pos:= "law.go:249",after:=#[{ on:=2,ground:=Ground.guard }],guard:=some (2,false) }) (v:=.agg D) rfl (by kernel_rfl) (by kernel_rfl) (by kernel_rfl) (fun _ _ _ h=>h) (yl53 D rv _ rfl rfl (fun _ h=>h.1) hD25) (by assumption) ?_
          try simp only [Act.put,List.setIfInBounds_toArray,List.set_cons_zero,List.set_cons_succ]
          refine wpAnyH_ready (rs:=[5]) (by kernel_rfl) (by simp) ?_
          refine AllReadyH.cons (o:={ dst:=some 80,op:=Op.call { callee:=Callee.value (Operand.func 10),args:=#[Operand.tmp 78,Operand.tmp 79],argTypes:=#[27,42] },type:=4,pos:= "law.go:249",after:=#[{ on:=3,ground:=Ground.data },{ on:=4,ground:=Ground.data },{ on:=2,ground:=Ground.chain },{ on:=2,ground:=Ground.guard }],guard:=some (2,false) }) rfl (fun K hK=>?_) AllReadyH.nil
          first | (go_at_call 10; refine (show Calls _ _ _ _ _ from HPL.out.qas hin).mono ?_; rintro e a1 ⟨rfl,hb1⟩; have hin:=HPL.out.on hin hb1; have hrr:=keep_row hrr hb1; have hbw:=hbw.trans (hb1.mono hbw.size); have hat:=HAT.out _ hbw) | (go_simp; go_at_call 10; refine (show Calls _ _ _ _ _ from HPL.out.qas hin).mono ?_; rintro e a1 ⟨rfl,hb1⟩; have hin:=HPL.out.on hin hb1; have hrr:=keep_row hrr hb1; have hbw:=hbw.trans (hb1.mono hbw.size); have hat:=HAT.out _ hbw)
          refine hK.out _ _ (⟨fun j v hv=>by rw [cellC hrr]; simpa using hv,hat.cells⟩) (fun hHeld=>?_)
          clear hK K
          try simp only [Act.put,List.setIfInBounds_toArray,List.set_cons_zero,List.set_cons_succ]
          refine wpAnyH_take (i:=6) (oi:={ dst:=some 81,op:=Op.unOp UnOp.not 4 (Operand.tmp 80),type:=4,pos:= "law.go:249",after:=#[{ on:=5,ground:=Ground.data },{ on:=2,ground:=Ground.guard }],guard:=some (2,false) }) (v:=.bool false) rfl (by kernel_rfl) (by kernel_rfl) (by kernel_rfl) (fun _ _ _ h=>h) (Or.inl ⟨by rfl,?y6⟩) (by assumption) ?_
          case y6=>(intro w hSw; (try dsimp only at hSw); first | (go_simp; done) | (go_simp; with_reducible rfl) | (go_simp; rfl))
          try simp only [Act.put,List.setIfInBounds_toArray,List.set_cons_zero,List.set_cons_succ]
          refine wpAnyH_take (i:=7) (oi:={ dst:=some 82,op:=Op.pick (Operand.tmp 77) (Operand.const (Value.bool true)) (Operand.tmp 81),type:=4,pos:= "law.go:249",after:=#[{ on:=2,ground:=Ground.data },{ on:=6,ground:=Ground.data }],guard:=none }) (v:=.bool false) rfl (by kernel_rfl) (by kernel_rfl) (by kernel_rfl) (fun _ _ _ h=>h) (Or.inl ⟨by rfl,?y7⟩) (by assumption) ?_
          case y7=>(intro w hSw; (try dsimp only at hSw); first | (go_simp; done) | (go_simp; with_reducible rfl) | (go_simp; rfl))
          try simp only [Act.put,List.setIfInBounds_toArray,List.set_cons_zero,List.set_cons_succ]
          refine wpAnyH_take (i:=8) (oi:={ dst:=some 83,op:=Op.move (Operand.tmp 82),type:=4,pos:= "law.go:249",after:=#[{ on:=7,ground:=Ground.data },{ on:=5,ground:=Ground.chain }],guard:=none }) (v:=.bool false) rfl (by kernel_rfl) (by kernel_rfl) (by kernel_rfl) (fun _ _ _ h=>h) (Or.inl ⟨by rfl,?y8⟩) (by assumption) ?_
          case y8=>(intro w hSw; (try dsimp only at hSw); first | (go_simp; done) | (go_simp; with_reducible rfl) | (go_simp; rfl))
          try simp only [Act.put,List.setIfInBounds_toArray,List.set_cons_zero,List.set_cons_succ]
          refine wpAnyH_take (i:=9) (oi:={ dst:=some 84,op:=Op.move (Operand.tmp 7),type:=27,pos:= "law.go:249",after:=#[{ on:=8,ground:=Ground.guard }],guard:=some (8,false) }) (v:=.pointer (some ⟨bv,0,none⟩)) rfl (by kernel_rfl) (by kernel_rfl) (by kernel_rfl) (fun _ _ _ h=>h) (Or.inl ⟨by rfl,?y9⟩) (by assumption) ?_
          case y9=>(intro w hSw; (try dsimp only at hSw); first | (go_simp; done) | (go_simp; with_reducible rfl) | (go_simp; rfl))
          try simp only [Act.put,List.setIfInBounds_toArray,List.set_cons_zero,List.set_cons_succ]
          refine wpAnyH_take (i:=10) (oi:={ dst:=some 85,op:=Op.load 42 (Operand.tmp 9),type:=42,pos:= "law.go:249",after:=#[{ on:=8,ground:=Ground.guard }],guard:=some (8,false) }) (v:=.agg D) rfl (by kernel_rfl) (by kernel_rfl) (by kernel_rfl) (fun _ _ _ h=>h) (yl53 D rv _ rfl rfl (fun _ h=>h.1) hD25) (by assumption) ?_
          try simp only [Act.put,List.setIfInBounds_toArray,List.set_cons_zero,List.set_cons_succ]
          refine wpAnyH_take (i:=11) (oi:={ dst:=some 86,op:=Op.move (Operand.tmp 2),type:=24,pos:= "law.go:249",after:=#[{ on:=8,ground:=Ground.guard }],guard:=some (8,false) }) (v:=.slice (some ⟨G,off,none⟩) len cap) rfl (by kernel_rfl) (by kernel_rfl) (by kernel_rfl) (fun _ _ _ h=>h) (Or.inl ⟨by rfl,?y11⟩) (by assumption) ?_
          case y11=>(intro w hSw; (try dsimp only at hSw); first | (go_simp; done) | (go_simp; with_reducible rfl) | (go_simp; rfl))
          try simp only [Act.put,List.setIfInBounds_toArray,List.set_cons_zero,List.set_cons_succ]
          refine wpAnyH_take (i:=12) (oi:={ dst:=some 87,op:=Op.move (Operand.tmp 11),type:=3,pos:= "law.go:249",after:=#[{ on:=8,ground:=Ground.guard }],guard:=some (8,false) }) (v:=.int .i64 (i:Int)) rfl (by kernel_rfl) (by kernel_rfl) (by kernel_rfl) (fun _ _ _ h=>h) (Or.inl ⟨by rfl,?y12⟩) (by assumption) ?_
          case y12=>(intro w hSw; (try dsimp only at hSw); first | (go_simp; done) | (go_simp; with_reducible rfl) | (go_simp; rfl))
          try simp only [Act.put,List.setIfInBounds_toArray,List.set_cons_zero,List.set_cons_succ]
          refine wpAnyH_take (i:=13) (oi:={ dst:=some 88,op:=Op.indexAddr 24 (Operand.tmp 86) (Operand.tmp 87),type:=0,pos:= "law.go:249",after:=#[{ on:=11,ground:=Ground.data },{ on:=12,ground:=Ground.data },{ on:=8,ground:=Ground.guard }],guard:=some (8,false) }) (v:=.pointer (some ⟨G,off + i * 19,none⟩)) rfl (by kernel_rfl) (by kernel_rfl) (by kernel_rfl) (fun _ _ _ h=>h) (Or.inl ⟨by rfl,?y13⟩) (by assumption) ?_
          case y13=>(intro w hSw; (try dsimp only at hSw); first | (go_simp; done) | (go_simp; with_reducible rfl) | (go_simp; rfl))
          try simp only [Act.put,List.setIfInBounds_toArray,List.set_cons_zero,List.set_cons_succ]
          refine wpAnyH_take (i:=14) (oi:={ dst:=some 89,op:=Op.load 53 (Operand.tmp 88),type:=53,pos:= "law.go:249",after:=#[{ on:=13,ground:=Ground.data },{ on:=8,ground:=Ground.guard }],guard:=some (8,false) }) (v:=.agg (opA o)) rfl (by kernel_rfl) (by kernel_rfl) (by kernel_rfl) (fun _ _ _ h=>h) (yl36o (opA o) G (off + i * 19) _ rfl rfl (fun _ h=>h.2) rfl) (by assumption) ?_
          try simp only [Act.put,List.setIfInBounds_toArray,List.set_cons_zero,List.set_cons_succ]
          refine wpAnyH_ready (rs:=[15]) (by kernel_rfl) (by simp) ?_
          refine AllReadyH.cons (o:={ dst:=some 90,op:=Op.call { callee:=Callee.value (Operand.func 11),args:=#[Operand.tmp 84,Operand.tmp 85,Operand.tmp 89],argTypes:=#[27,42,53] },type:=4,pos:= "law.go:249",after:=#[{ on:=9,ground:=Ground.data },{ on:=10,ground:=Ground.data },{ on:=14,ground:=Ground.data },{ on:=8,ground:=Ground.chain },{ on:=8,ground:=Ground.guard }],guard:=some (8,false) }) rfl (fun K hK=>?_) AllReadyH.nil
          first | (go_at_call 11; refine (show Calls _ _ _ _ _ from HPL.out.asked hin hat.ok).mono ?_; rintro e a2 ⟨rfl,hb1⟩; have hin:=HPL.out.on hin hb1; have hrr:=keep_row hrr hb1; have hbw:=hbw.trans (hb1.mono hbw.size); have hat:=HAT.out _ hbw) | (go_simp; go_at_call 11; refine (show Calls _ _ _ _ _ from HPL.out.asked hin hat.ok).mono ?_; rintro e a2 ⟨rfl,hb1⟩; have hin:=HPL.out.on hin hb1; have hrr:=keep_row hrr hb1; have hbw:=hbw.trans (hb1.mono hbw.size); have hat:=HAT.out _ hbw)
          refine hK.out _ _ (⟨fun j v hv=>by rw [cellC hrr]; simpa using hv,hat.cells⟩) (fun hHeld=>?_)
          clear hK K
          try simp only [Act.put,List.setIfInBounds_toArray,List.set_cons_zero,List.set_cons_succ]
          refine wpAnyH_take (i:=16) (oi:={ dst:=some 91,op:=Op.unOp UnOp.not 4 (Operand.tmp 90),type:=4,pos:= "law.go:249",after:=#[{ on:=15,ground:=Ground.data },{ on:=8,ground:=Ground.guard }],guard:=some (8,false) }) (v:=.bool false) rfl (by kernel_rfl) (by kernel_rfl) (by kernel_rfl) (fun _ _ _ h=>h) (Or.inl ⟨by rfl,?y16⟩) (by assumption) ?_
          case y16=>(intro w hSw; (try dsimp only at hSw); first | (go_simp; done) | (go_simp; with_reducible rfl) | (go_simp; rfl))
          try simp only [Act.put,List.setIfInBounds_toArray,List.set_cons_zero,List.set_cons_succ]
          refine wpAnyH_take (i:=17) (oi:={ dst:=some 92,op:=Op.pick (Operand.tmp 83) (Operand.const (Value.bool true)) (Operand.tmp 91),type:=4,pos:= "law.go:249",after:=#[{ on:=8,ground:=Ground.data },{ on:=16,ground:=Ground.data }],guard:=none }) (v:=.bool false) rfl (by kernel_rfl) (by kernel_rfl) (by kernel_rfl) (fun _ _ _ h=>h) (Or.inl ⟨by rfl,?y17⟩) (by assumption) ?_
          case y17=>(intro w hSw; (try dsimp only at hSw); first | (go_simp; done) | (go_simp; with_reducible rfl) | (go_simp; rfl))
          try simp only [Act.put,List.setIfInBounds_toArray,List.set_cons_zero,List.set_cons_succ]
          refine wpAnyH_done (by kernel_rfl) ?_ _
          go_wp2
          go_roundw
          case rel=>exact ⟨i + 1,bv,D,hlt,rfl,rfl,hin,hrr,hbw⟩
          case measure=>simp [intOf]; omega
        · have hkb:(o.k == 12)=false:=by rw [beq_eq_false_iff_ne]; exact hk
          obtain ⟨kk,hkk⟩:∃ kk,o.k=kk:=⟨_,rfl⟩
          rw [hkk] at hkb hk3 hk0
          have hD25:=hC25
          clear hk hkk hat
          go_wp2_with fail
          clear hk0 hkb hk3
          have hb0:Below wr.heap.size wr wr.drew:=(Below.refl _ _).drew
          have hin:=HPL.out.on hin hb0
          have hrr:=keep_row hrr hb0
          have hbw:=hbw.trans (hb0.mono hbw.size)
          have hat:=HAT.out _ hbw
          clear hb0
          refine wp_region_held_drew (S:=fun W:World=>W.rangeAt rv 0 C.toList∧W.rangeAt G (off + i * 19) (opC o)) (by kernel_rfl) (⟨fun j v hv=>by rw [cellC hrr]; simpa using hv,hat.cells⟩) (fun hHeld=>?_)
          refine wpAnyH_take (i:=0) (oi:={ dst:=some 75,op:=Op.move (Operand.tmp 12),type:=4,pos:= "law.go:249",after:=#[],guard:=none }) (v:=.bool true) rfl (by kernel_rfl) (by kernel_rfl) (by kernel_rfl) (fun _ _ _ h=>h) (Or.inl ⟨by rfl,?y0⟩) (by assumption) ?_
          case y0=>(intro w hSw; (try dsimp only at hSw); first | (go_simp; done) | (go_simp; with_reducible rfl) | (go_simp; rfl))
          try simp only [Act.put,List.setIfInBounds_toArray,List.set_cons_zero,List.set_cons_succ]
          refine wpAnyH_take (i:=1) (oi:={ dst:=some 76,op:=Op.unOp UnOp.not 4 (Operand.tmp 75),type:=4,pos:= "law.go:249",after:=#[{ on:=0,ground:=Ground.data }],guard:=none }) (v:=.bool false) rfl (by kernel_rfl) (by kernel_rfl) (by kernel_rfl) (fun _ _ _ h=>h) (Or.inl ⟨by rfl,?y1⟩) (by assumption) ?_
          case y1=>(intro w hSw; (try dsimp only at hSw); first | (go_simp; done) | (go_simp; with_reducible rfl) | (go_simp; rfl))
          try simp only [Act.put,List.setIfInBounds_toArray,List.set_cons_zero,List.set_cons_succ]
          refine wpAnyH_take (i:=2) (oi:={ dst:=some 77,op:=Op.move (Operand.tmp 76),type:=4,pos:= "law.go:249",after:=#[{ on:=1,ground:=Ground.data }],guard:=none }) (v:=.bool false) rfl (by kernel_rfl) (by kernel_rfl) (by kernel_rfl) (fun _ _ _ h=>h) (Or.inl ⟨by rfl,?y2⟩) (by assumption) ?_
          case y2=>(intro w hSw; (try dsimp only at hSw); first | (go_simp; done) | (go_simp; with_reducible rfl) | (go_simp; rfl))
          try simp only [Act.put,List.setIfInBounds_toArray,List.set_cons_zero,List.set_cons_succ]
          refine wpAnyH_take (i:=3) (oi:={ dst:=some 78,op:=Op.move (Operand.tmp 7),type:=27,pos:= "law.go:249",after:=#[{ on:=2,ground:=Ground.guard }],guard:=some (2,false) }) (v:=.pointer (some ⟨bv,0,none⟩)) rfl (by kernel_rfl) (by kernel_rfl) (by kernel_rfl) (fun _ _ _ h=>h) (Or.inl ⟨by rfl,?y3⟩) (by assumption) ?_
          case y3=>(intro w hSw; (try dsimp only at hSw); first | (go_simp; done) | (go_simp; with_reducible rfl) | (go_simp; rfl))
          try simp only [Act.put,List.setIfInBounds_toArray,List.set_cons_zero,List.set_cons_succ]
          refine wpAnyH_take (i:=4) (oi:={ dst:=some 79,op:=Op.load 42 (Operand.tmp 9),type:=42,pos:= "law.go:249",after:=#[{ on:=2,ground:=Ground.guard }],guard:=some (2,false) }) (v:=.agg C) rfl (by kernel_rfl) (by kernel_rfl) (by kernel_rfl) (fun _ _ _ h=>h) (yl53 C rv _ rfl rfl (fun _ h=>h.1) hD25) (by assumption) ?_
          try simp only [Act.put,List.setIfInBounds_toArray,List.set_cons_zero,List.set_cons_succ]
          refine wpAnyH_ready (rs:=[5]) (by kernel_rfl) (by simp) ?_
          refine AllReadyH.cons (o:={ dst:=some 80,op:=Op.call { callee:=Callee.value (Operand.func 10),args:=#[Operand.tmp 78,Operand.tmp 79],argTypes:=#[27,42] },type:=4,pos:= "law.go:249",after:=#[{ on:=3,ground:=Ground.data },{ on:=4,ground:=Ground.data },{ on:=2,ground:=Ground.chain },{ on:=2,ground:=Ground.guard }],guard:=some (2,false) }) rfl (fun K hK=>?_) AllReadyH.nil
          first | (go_at_call 10; refine (show Calls _ _ _ _ _ from HPL.out.qas hin).mono ?_; rintro e a1 ⟨rfl,hb1⟩; have hin:=HPL.out.on hin hb1; have hrr:=keep_row hrr hb1; have hbw:=hbw.trans (hb1.mono hbw.size); have hat:=HAT.out _ hbw) | (go_simp; go_at_call 10; refine (show Calls _ _ _ _ _ from HPL.out.qas hin).mono ?_; rintro e a1 ⟨rfl,hb1⟩; have hin:=HPL.out.on hin hb1; have hrr:=keep_row hrr hb1; have hbw:=hbw.trans (hb1.mono hbw.size); have hat:=HAT.out _ hbw)
          refine hK.out _ _ (⟨fun j v hv=>by rw [cellC hrr]; simpa using hv,hat.cells⟩) (fun hHeld=>?_)
          clear hK K
          try simp only [Act.put,List.setIfInBounds_toArray,List.set_cons_zero,List.set_cons_succ]
          refine wpAnyH_take (i:=6) (oi:={ dst:=some 81,op:=Op.unOp UnOp.not 4 (Operand.tmp 80),type:=4,pos:= "law.go:249",after:=#[{ on:=5,ground:=Ground.data },{ on:=2,ground:=Ground.guard }],guard:=some (2,false) }) (v:=.bool false) rfl (by kernel_rfl) (by kernel_rfl) (by kernel_rfl) (fun _ _ _ h=>h) (Or.inl ⟨by rfl,?y6⟩) (by assumption) ?_
          case y6=>(intro w hSw; (try dsimp only at hSw); first | (go_simp; done) | (go_simp; with_reducible rfl) | (go_simp; rfl))
          try simp only [Act.put,List.setIfInBounds_toArray,List.set_cons_zero,List.set_cons_succ]
          refine wpAnyH_take (i:=7) (oi:={ dst:=some 82,op:=Op.pick (Operand.tmp 77) (Operand.const (Value.bool true)) (Operand.tmp 81),type:=4,pos:= "law.go:249",after:=#[{ on:=2,ground:=Ground.data },{ on:=6,ground:=Ground.data }],guard:=none }) (v:=.bool false) rfl (by kernel_rfl) (by kernel_rfl) (by kernel_rfl) (fun _ _ _ h=>h) (Or.inl ⟨by rfl,?y7⟩) (by assumption) ?_
          case y7=>(intro w hSw; (try dsimp only at hSw); first | (go_simp; done) | (go_simp; with_reducible rfl) | (go_simp; rfl))
          try simp only [Act.put,List.setIfInBounds_toArray,List.set_cons_zero,List.set_cons_succ]
          refine wpAnyH_take (i:=8) (oi:={ dst:=some 83,op:=Op.move (Operand.tmp 82),type:=4,pos:= "law.go:249",after:=#[{ on:=7,ground:=Ground.data },{ on:=5,ground:=Ground.chain }],guard:=none }) (v:=.bool false) rfl (by kernel_rfl) (by kernel_rfl) (by kernel_rfl) (fun _ _ _ h=>h) (Or.inl ⟨by rfl,?y8⟩) (by assumption) ?_
          case y8=>(intro w hSw; (try dsimp only at hSw); first | (go_simp; done) | (go_simp; with_reducible rfl) | (go_simp; rfl))
          try simp only [Act.put,List.setIfInBounds_toArray,List.set_cons_zero,List.set_cons_succ]
          refine wpAnyH_take (i:=9) (oi:={ dst:=some 84,op:=Op.move (Operand.tmp 7),type:=27,pos:= "law.go:249",after:=#[{ on:=8,ground:=Ground.guard }],guard:=some (8,false) }) (v:=.pointer (some ⟨bv,0,none⟩)) rfl (by kernel_rfl) (by kernel_rfl) (by kernel_rfl) (fun _ _ _ h=>h) (Or.inl ⟨by rfl,?y9⟩) (by assumption) ?_
          case y9=>(intro w hSw; (try dsimp only at hSw); first | (go_simp; done) | (go_simp; with_reducible rfl) | (go_simp; rfl))
          try simp only [Act.put,List.setIfInBounds_toArray,List.set_cons_zero,List.set_cons_succ]
          refine wpAnyH_take (i:=10) (oi:={ dst:=some 85,op:=Op.load 42 (Operand.tmp 9),type:=42,pos:= "law.go:249",after:=#[{ on:=8,ground:=Ground.guard }],guard:=some (8,false) }) (v:=.agg C) rfl (by kernel_rfl) (by kernel_rfl) (by kernel_rfl) (fun _ _ _ h=>h) (yl53 C rv _ rfl rfl (fun _ h=>h.1) hD25) (by assumption) ?_
          try simp only [Act.put,List.setIfInBounds_toArray,List.set_cons_zero,List.set_cons_succ]
          refine wpAnyH_take (i:=11) (oi:={ dst:=some 86,op:=Op.move (Operand.tmp 2),type:=24,pos:= "law.go:249",after:=#[{ on:=8,ground:=Ground.guard }],guard:=some (8,false) }) (v:=.slice (some ⟨G,off,none⟩) len cap) rfl (by kernel_rfl) (by kernel_rfl) (by kernel_rfl) (fun _ _ _ h=>h) (Or.inl ⟨by rfl,?y11⟩) (by assumption) ?_
          case y11=>(intro w hSw; (try dsimp only at hSw); first | (go_simp; done) | (go_simp; with_reducible rfl) | (go_simp; rfl))
          try simp only [Act.put,List.setIfInBounds_toArray,List.set_cons_zero,List.set_cons_succ]
          refine wpAnyH_take (i:=12) (oi:={ dst:=some 87,op:=Op.move (Operand.tmp 11),type:=3,pos:= "law.go:249",after:=#[{ on:=8,ground:=Ground.guard }],guard:=some (8,false) }) (v:=.int .i64 (i:Int)) rfl (by kernel_rfl) (by kernel_rfl) (by kernel_rfl) (fun _ _ _ h=>h) (Or.inl ⟨by rfl,?y12⟩) (by assumption) ?_
          case y12=>(intro w hSw; (try dsimp only at hSw); first | (go_simp; done) | (go_simp; with_reducible rfl) | (go_simp; rfl))
          try simp only [Act.put,List.setIfInBounds_toArray,List.set_cons_zero,List.set_cons_succ]
          refine wpAnyH_take (i:=13) (oi:={ dst:=some 88,op:=Op.indexAddr 24 (Operand.tmp 86) (Operand.tmp 87),type:=0,pos:= "law.go:249",after:=#[{ on:=11,ground:=Ground.data },{ on:=12,ground:=Ground.data },{ on:=8,ground:=Ground.guard }],guard:=some (8,false) }) (v:=.pointer (some ⟨G,off + i * 19,none⟩)) rfl (by kernel_rfl) (by kernel_rfl) (by kernel_rfl) (fun _ _ _ h=>h) (Or.inl ⟨by rfl,?y13⟩) (by assumption) ?_
          case y13=>(intro w hSw; (try dsimp only at hSw); first | (go_simp; done) | (go_simp; with_reducible rfl) | (go_simp; rfl))
          try simp only [Act.put,List.setIfInBounds_toArray,List.set_cons_zero,List.set_cons_succ]
          refine wpAnyH_take (i:=14) (oi:={ dst:=some 89,op:=Op.load 53 (Operand.tmp 88),type:=53,pos:= "law.go:249",after:=#[{ on:=13,ground:=Ground.data },{ on:=8,ground:=Ground.guard }],guard:=some (8,false) }) (v:=.agg (opA o)) rfl (by kernel_rfl) (by kernel_rfl) (by kernel_rfl) (fun _ _ _ h=>h) (yl36o (opA o) G (off + i * 19) _ rfl rfl (fun _ h=>h.2) rfl) (by assumption) ?_
          try simp only [Act.put,List.setIfInBounds_toArray,List.set_cons_zero,List.set_cons_succ]
          refine wpAnyH_ready (rs:=[15]) (by kernel_rfl) (by simp) ?_
          refine AllReadyH.cons (o:={ dst:=some 90,op:=Op.call { callee:=Callee.value (Operand.func 11),args:=#[Operand.tmp 84,Operand.tmp 85,Operand.tmp 89],argTypes:=#[27,42,53] },type:=4,pos:= "law.go:249",after:=#[{ on:=9,ground:=Ground.data },{ on:=10,ground:=Ground.data },{ on:=14,ground:=Ground.data },{ on:=8,ground:=Ground.chain },{ on:=8,ground:=Ground.guard }],guard:=some (8,false) }) rfl (fun K hK=>?_) AllReadyH.nil
          first | (go_at_call 11; refine (show Calls _ _ _ _ _ from HPL.out.asked hin hat.ok).mono ?_; rintro e a2 ⟨rfl,hb1⟩; have hin:=HPL.out.on hin hb1; have hrr:=keep_row hrr hb1; have hbw:=hbw.trans (hb1.mono hbw.size); have hat:=HAT.out _ hbw) | (go_simp; go_at_call 11; refine (show Calls _ _ _ _ _ from HPL.out.asked hin hat.ok).mono ?_; rintro e a2 ⟨rfl,hb1⟩; have hin:=HPL.out.on hin hb1; have hrr:=keep_row hrr hb1; have hbw:=hbw.trans (hb1.mono hbw.size); have hat:=HAT.out _ hbw)
          refine hK.out _ _ (⟨fun j v hv=>by rw [cellC hrr]; simpa using hv,hat.cells⟩) (fun hHeld=>?_)
          clear hK K
          try simp only [Act.put,List.setIfInBounds_toArray,List.set_cons_zero,List.set_cons_succ]
          refine wpAnyH_take (i:=16) (oi:={ dst:=some 91,op:=Op.unOp UnOp.not 4 (Operand.tmp 90),type:=4,pos:= "law.go:249",after:=#[{ on:=15,ground:=Ground.data },{ on:=8,ground:=Ground.guard }],guard:=some (8,false) }) (v:=.bool false) rfl (by kernel_rfl) (by kernel_rfl) (by kernel_rfl) (fun _ _ _ h=>h) (Or.inl ⟨by rfl,?y16⟩) (by assumption) ?_
          case y16=>(intro w hSw; (try dsimp only at hSw); first | (go_simp; done) | (go_simp; with_reducible rfl) | (go_simp; rfl))
          try simp only [Act.put,List.setIfInBounds_toArray,List.set_cons_zero,List.set_cons_succ]
          refine wpAnyH_take (i:=17) (oi:={ dst:=some 92,op:=Op.pick (Operand.tmp 83) (Operand.const (Value.bool true)) (Operand.tmp 91),type:=4,pos:= "law.go:249",after:=#[{ on:=8,ground:=Ground.data },{ on:=16,ground:=Ground.data }],guard:=none }) (v:=.bool false) rfl (by kernel_rfl) (by kernel_rfl) (by kernel_rfl) (fun _ _ _ h=>h) (Or.inl ⟨by rfl,?y17⟩) (by assumption) ?_
          case y17=>(intro w hSw; (try dsimp only at hSw); first | (go_simp; done) | (go_simp; with_reducible rfl) | (go_simp; rfl))
          try simp only [Act.put,List.setIfInBounds_toArray,List.set_cons_zero,List.set_cons_succ]
          refine wpAnyH_done (by kernel_rfl) ?_ _
          go_wp2
          go_roundw
          case rel=>exact ⟨i + 1,bv,C,hlt,rfl,rfl,hin,hrr,hbw⟩
          case measure=>simp [intOf]; omega
    · have he:i=len:=by omega
      subst he
      have HBW:Hid _:=hbw
      clear hbw hrr hin
      go_wp2
      go_returns
      exact ⟨rfl,HBW.out⟩
end Go.Proofs.YtiefeeoellagnaaGreatDoor.V
namespace Go.Proofs.YtiefeeoellagnaaGreatDoor.V
open Go.ChangeShapes Go.WideShapes Go.RowKit
set_option linter.unusedVariables false
set_option linter.unusedSimpArgs false
abbrev i64B (x:Int):Prop:=-9223372036854775808 ≤ x∧x ≤ 9223372036854775807
theorem cellsI:Tryz.prog.cellsOf 3=1:=by kernel_rfl
theorem cells9:Tryz.prog.cellsOf 9=1:=by kernel_rfl
theorem cellsS:Tryz.prog.cellsOf 9=1:=by kernel_rfl
theorem cellsBo:Tryz.prog.cellsOf 4=1:=by kernel_rfl
theorem bytes9:Tryz.prog.bytesOf 9=16:=by kernel_rfl
theorem cellsBd:Tryz.prog.cellsOf 49=3:=by kernel_rfl
theorem cellsLx:Tryz.prog.cellsOf 51=3:=by kernel_rfl
theorem cellsTx:Tryz.prog.cellsOf 34=1:=by kernel_rfl
theorem cellsOx:Tryz.prog.cellsOf 53=19:=by kernel_rfl
theorem cellsTh:Tryz.prog.cellsOf 23=9:=by kernel_rfl
theorem weights_strs {H:Type} (P:Program) (e:TypeId) (l:List ByteArray) (x:ByteArray) (hx:x ∈ l):x.data.toList.length ∈ DataW.weightsAll P e (strs (H:=H) l):=by
  induction l with
  | nil=>cases hx
  | cons y l ih =>
    simp only [strs,List.map_cons,DataW.weightsAll,DataW.weights,List.mem_append,List.mem_singleton]
    rcases List.mem_cons.1 hx with rfl | hx
    · exact Or.inl rfl
    · exact Or.inr (ih hx)
theorem weights_elem {H:Type} (P:Program) (e:TypeId) (l:List (DataW H)) (d:DataW H) (hd:d ∈ l) (n:Nat) (hn:n ∈ d.weights P e):n ∈ DataW.weightsAll P e l:=by
  induction l with
  | nil=>cases hd
  | cons y l ih =>
    simp only [DataW.weightsAll,List.mem_append]
    rcases List.mem_cons.1 hd with rfl | h
    · exact Or.inl hn
    · exact Or.inr (ih h)
theorem open_row {H:Type} {enc:TypeId × Value → H} {W:World} {fuel:Nat} {v:Value} {y:DataW H × List MemPlace} {ts:List TypeId} {ds:List (DataW H)} {j:Nat}
    (h:DataW.trod enc Tryz.prog W 0 (fun _=>true) true fuel 34 [v]=some y)
    (hsz:(DataW.weightsEach Tryz.prog ts ds).all (· ≤ reachBytes)=true) (ht:ts[j]?=some 34) (hd:ds[j]?=some y.1) :
    ∃ vs:List ByteArray,SRow W v vs∧(∀ c,v=.slice none 0 c → c=0)∧vs.length * 16 ≤ 140737488351232∧∀ x ∈ vs,x.size ≤ 281474976710656:=by
  rcases open_strings Tryz.underlying34 Tryz.underlying9 cells9 h with ⟨hcs,hx⟩ | ⟨a,len,cap,ss,hcs,_,hl,hm,hz,hx,hcell,hws⟩
  · have e:v=.slice none 0 0:=by simpa using hcs
    subst e
    exact ⟨[],Or.inl ⟨rfl,none,0,rfl⟩,fun c h=>S6.nil_cap h,by simp,by simp⟩
  · have e:v=.slice (some a) len cap:=by simpa using hcs
    subst e
    simp only [if_true] at hz
    rw [hx] at hd
    have hr:len * 16 ≤ 140737488351232:=by
      have:=sized_slice hsz ht hd Tryz.underlying34
      rw [bytes9] at this
      simp only [strs,List.length_map,List.length_take,List.length_drop,reachBytes] at this
      omega
    have hstr:∀ x ∈ ss.take len,x.size ≤ 281474976710656:=fun x hx'=>by
      have hmem:x.data.toList.length ∈ DataW.weightsEach Tryz.prog ts ds:=by
        refine DataW.weights_mem_each ht hd _ ?_
        simp only [DataW.weights,Tryz.underlying34,List.mem_cons,List.mem_append]
        exact Or.inr (Or.inl (weights_strs _ _ _ x hx'))
      have:=List.all_eq_true.1 hsz _ hmem
      rw [S6.list_len] at this
      have h9:x.size ≤ reachBytes:=of_decide_eq_true this
      have h10:reachBytes=140737488351232:=rfl
      omega
    refine ⟨ss.take len,?_,(fun c h=>by cases h),(by rw [List.length_take]; omega),hstr⟩
    have hlen:(ss.take len).length=len:=by rw [List.length_take]; omega
    by_cases h0:len=0
    · subst h0
      exact Or.inl ⟨by simp,some a,cap,rfl⟩
    · obtain ⟨b,off,spot⟩:=a
      have hspot:spot=none:=by simpa [Addr.add] using World.cell?_spot (hcell 0 (by omega))
      subst hspot
      refine Or.inr ⟨b,off,cap,by rw [hlen],fun j hj=>?_⟩
      have:=hcell j (by omega)
      rw [Lib.add_plain] at this
      rw [this,List.getElem_take,List.getD_eq_getElem?_getD,List.getElem?_eq_getElem (by omega)]
      rfl
set_option maxRecDepth 100000 in
theorem open_bd {H:Type} {enc:TypeId × Value → H} {W:World} {fuel:Nat} {cs:List Value} {x:DataW H × List MemPlace} (hc:cs.length=3) (h:DataW.trod enc Tryz.prog W 0 (fun _=>true) true fuel 49 cs=some x):∃ (s i:Int) (b:Bool),cs=[.int .i64 s,.int .i64 i,.bool b]∧i64B s:=by
  obtain ⟨xs,k,hk,hxy,_,hxl,hf⟩:=DataW.trod_struct Tryz.underlying49 h
  match xs,hxl,cs,hc with
  | [y0,y1,y2],_,[v0,v1,v2],_ =>
    have g0:=hf 0 _ rfl
    have g1:=hf 1 _ rfl
    have g2:=hf 2 _ rfl
    simp [cellsI,cellsBo] at g0 g1 g2
    obtain ⟨z0,e0,_,hw0⟩:=DataW.trod_int Tryz.underlying3 g0
    obtain ⟨z1,e1,_,hw1⟩:=DataW.trod_int Tryz.underlying3 g1
    obtain ⟨z2,e2,_⟩:=DataW.trod_bool Tryz.underlying4 g2
    simp at e0 e1 e2
    simp [Lit.wf,IntKind.min,IntKind.max,IntKind.signed,IntKind.bits] at hw0 hw1
    subst e0; subst e1; subst e2
    exact ⟨z0,z1,z2,rfl,by omega,by omega⟩
set_option maxRecDepth 100000 in
theorem open_lx {H:Type} {enc:TypeId × Value → H} {W:World} {fuel:Nat} {cs:List Value} {x:DataW H × List MemPlace} (hc:cs.length=3) (h:DataW.trod enc Tryz.prog W 0 (fun _=>true) true fuel 51 cs=some x):∃ (s:ByteArray) (i:Int) (b:Bool),cs=[.string s,.int .i64 i,.bool b]:=by
  obtain ⟨xs,k,hk,hxy,_,hxl,hf⟩:=DataW.trod_struct Tryz.underlying51 h
  match xs,hxl,cs,hc with
  | [y0,y1,y2],_,[v0,v1,v2],_ =>
    have g0:=hf 0 _ rfl
    have g1:=hf 1 _ rfl
    have g2:=hf 2 _ rfl
    simp [cellsI,cellsBo,cellsS] at g0 g1 g2
    obtain ⟨z0,e0,hy0,_⟩:=DataW.trod_string Tryz.underlying9 g0
    obtain ⟨z1,e1,_,hw1⟩:=DataW.trod_int Tryz.underlying3 g1
    obtain ⟨z2,e2,_⟩:=DataW.trod_bool Tryz.underlying4 g2
    simp at e0 e1 e2
    subst e0; subst e1; subst e2
    exact ⟨z0,z1,z2,rfl⟩
set_option maxRecDepth 100000 in
theorem open_th {H:Type} {enc:TypeId × Value → H} {W:World} {fuel:Nat} {cs:List Value} {x:DataW H × List MemPlace} (hc:cs.length=9)
    (h:DataW.trod enc Tryz.prog W 0 (fun _=>true) true fuel 23 cs=some x) :
    ∃ z0 z1 z2 z3 z4 z5 z6 z7 z8:Int,cs=[.int .i64 z0,.int .i64 z1,.int .i64 z2,.int .i64 z3,.int .i64 z4,.int .i64 z5,.int .i64 z6,.int .i64 z7,.int .i64 z8]:=by
  obtain ⟨xs,k,hk,hxy,_,hxl,hf⟩:=DataW.trod_struct Tryz.underlying23 h
  match xs,hxl,cs,hc with
  | [y0,y1,y2,y3,y4,y5,y6,y7,y8],_,[v0,v1,v2,v3,v4,v5,v6,v7,v8],_ =>
    have g0:=hf 0 _ rfl
    have g1:=hf 1 _ rfl
    have g2:=hf 2 _ rfl
    have g3:=hf 3 _ rfl
    have g4:=hf 4 _ rfl
    have g5:=hf 5 _ rfl
    have g6:=hf 6 _ rfl
    have g7:=hf 7 _ rfl
    have g8:=hf 8 _ rfl
    simp [cellsI] at g0 g1 g2 g3 g4 g5 g6 g7 g8
    obtain ⟨z0,e0,_,_⟩:=DataW.trod_int Tryz.underlying3 g0
    obtain ⟨z1,e1,_,_⟩:=DataW.trod_int Tryz.underlying3 g1
    obtain ⟨z2,e2,_,_⟩:=DataW.trod_int Tryz.underlying3 g2
    obtain ⟨z3,e3,_,_⟩:=DataW.trod_int Tryz.underlying3 g3
    obtain ⟨z4,e4,_,_⟩:=DataW.trod_int Tryz.underlying3 g4
    obtain ⟨z5,e5,_,_⟩:=DataW.trod_int Tryz.underlying3 g5
    obtain ⟨z6,e6,_,_⟩:=DataW.trod_int Tryz.underlying3 g6
    obtain ⟨z7,e7,_,_⟩:=DataW.trod_int Tryz.underlying3 g7
    obtain ⟨z8,e8,_,_⟩:=DataW.trod_int Tryz.underlying3 g8
    simp at e0 e1 e2 e3 e4 e5 e6 e7 e8
    subst e0
    subst e1
    subst e2
    subst e3
    subst e4
    subst e5
    subst e6
    subst e7
    subst e8
    exact ⟨_,_,_,_,_,_,_,_,_,rfl⟩
set_option maxRecDepth 100000 in
set_option maxHeartbeats 1000000 in
theorem open_script {H:Type} {enc:TypeId × Value → H} {W:World} {fuel:Nat} {cs:List Value} {x:DataW H × List MemPlace} {ts:List TypeId} {ds:List (DataW H)} {j:Nat} (hcl:cs.length=1)
    (h:DataW.trod enc Tryz.prog W 0 (fun _=>true) true fuel 24 cs=some x)
    (hsz:(DataW.weightsEach Tryz.prog ts ds).all (· ≤ reachBytes)=true) (ht:ts[j]?=some 24) (hd:ds[j]?=some x.1) :
    ∃ ad len cap,cs=[.slice ad len cap]∧∃ g off,(len ≠ 0 → ad=some ⟨g,off,none⟩)∧len ≤ 9223372036854775807∧∀ i,i < len → ∃ o,OpAt W.heap.size W g (off + i * 19) o:=by
  rcases Go.Deep.open_slice Tryz.underlying24 h with ⟨hcs,hx⟩ | ⟨a,len,cap,m,n,D,Pl,hcs,_,hl,hm,hmm,hx,hcell⟩
  · exact ⟨none,0,0,hcs,0,0,fun h=>absurd rfl h,Nat.zero_le _,fun i hi=>by omega⟩
  · subst hx
    simp only [if_true] at hmm
    subst hmm
    have hw:∀ i,i < len → ∀ z,z ∈ (D i).weights Tryz.prog 53 → z ≤ reachBytes:=by
      intro i hi z hz
      have hmem:z ∈ DataW.weightsEach Tryz.prog ts ds:=by
        refine DataW.weights_mem_each ht hd _ ?_
        simp only [DataW.weights,Tryz.underlying24,List.mem_cons,List.mem_append]
        exact Or.inr (Or.inl (weights_elem _ _ _ (D i) (List.mem_map.2 ⟨i,List.mem_range.2 hi,rfl⟩) z hz))
      have:=List.all_eq_true.1 hsz _ hmem
      exact of_decide_eq_true this
    obtain ⟨g,off,spot⟩:=a
    have hsp:len ≠ 0 → spot=none:=fun h=>by
      obtain ⟨cs',h1,h2⟩:=hcell 0 (by omega)
      rw [cellsOx] at h1
      obtain ⟨_,hlen4,hc4⟩:=World.cells?_some h1
      have c0:=hc4 0 (by omega)
      obtain ⟨v0,hv0⟩:∃ v0,cs'[0]?=some v0:=⟨_,List.getElem?_eq_getElem (by omega)⟩
      rw [hv0] at c0
      simpa [Addr.add] using World.cell?_spot c0
    refine ⟨some ⟨g,off,spot⟩,len,m,hcs,g,off,fun h=>by rw [hsp h],by unfold maxLen at hm; omega,fun i hi=>?_⟩
    obtain ⟨cs',h1,h2⟩:=hcell i (by omega)
    have hs:=hsp (by omega)
    subst hs
    rw [cellsOx] at h1
    obtain ⟨_,hlen4,hc4⟩:=World.cells?_some h1
    obtain ⟨xs,k,hk,hxy,_,hxl,hf⟩:=DataW.trod_struct Tryz.underlying53 h2
    match xs,hxl,cs',hlen4 with
    | [y0,y1,y2,y3,y4,y5,y6,y7,y8,y9,y10],_,[v0,v1,v2,v3,v4,v5,v6,v7,v8,v9,v10,v11,v12,v13,v14,v15,v16,v17,v18],_ =>
      have g0:=hf 0 _ rfl
      have g1:=hf 1 _ rfl
      have g4:=hf 4 _ rfl
      have g5:=hf 5 _ rfl
      have g6:=hf 6 _ rfl
      have g7:=hf 7 _ rfl
      have g8:=hf 8 _ rfl
      have g9:=hf 9 _ rfl
      have g10:=hf 10 _ rfl
      simp [cellsI,cellsBo,cellsTx,cellsBd,cellsLx] at g0 g1 g4 g5 g6 g7 g8 g9 g10
      simp only [Prod.mk.injEq] at hxy
      obtain ⟨z0,e0,_,_⟩:=DataW.trod_int Tryz.underlying3 g0
      obtain ⟨z4,e4,_,_⟩:=DataW.trod_int Tryz.underlying3 g4
      obtain ⟨z5,e5,_,_⟩:=DataW.trod_int Tryz.underlying3 g5
      obtain ⟨z6,e6,_⟩:=DataW.trod_bool Tryz.underlying4 g6
      obtain ⟨s7,i7,b7,e7,_⟩:=open_bd rfl g7
      obtain ⟨s8,i8,b8,e8,_⟩:=open_bd rfl g8
      obtain ⟨s9,i9,b9,e9⟩:=open_lx rfl g9
      obtain ⟨s10,i10,b10,e10⟩:=open_lx rfl g10
      simp at e0 e4 e5 e6 e7 e8 e9 e10
      have hy1:(DataW.weightsEach Tryz.prog [34] [y1.1]).all (· ≤ reachBytes)=true:=by
        refine List.all_eq_true.2 (fun z hz=>?_)
        have hz':z ∈ (D i).weights Tryz.prog 53:=by
          rw [hxy.1]
          simp only [DataW.weights,Tryz.underlying53]
          simp only [DataW.weightsEach,List.append_nil] at hz
          exact DataW.weights_mem_each (j:=1) rfl rfl z hz
        exact decide_eq_true (hw i hi z hz')
      obtain ⟨txs,r1,r2,r3,r4⟩:=open_row (ts:=[34]) (ds:=[y1.1]) (j:=0) g1 hy1 rfl rfl
      obtain ⟨rfl,rfl,rfl⟩:=e7
      obtain ⟨rfl,rfl,rfl⟩:=e8
      obtain ⟨rfl,rfl,rfl⟩:=e9
      obtain ⟨rfl,rfl,rfl⟩:=e10
      subst e0; subst e4; subst e5; subst e6
      refine ⟨⟨z0,v1,v2,v3,txs,[],[],z4,z5,z6,(s7,i7,b7),(s8,i8,b8),(s9,i9,b9),(s10,i10,b10)⟩,fun q u hu=>?_,⟨r1,r2,r3,?_⟩⟩
      · have hj:q < 19:=by
          obtain ⟨h1,_⟩:=List.getElem?_eq_some_iff.1 hu
          exact h1
        have c0:=hc4 q hj
        rw [show [Value.int .i64 z0,v1,v2,v3,.int .i64 z4,.int .i64 z5,.bool z6,.int .i64 s7,.int .i64 i7,.bool b7,.int .i64 s8,.int .i64 i8,.bool b8,.string s9,.int .i64 i9,.bool b9,.string s10,.int .i64 i10,.bool b10][q]?=some u from hu,Go.Deep.add_add,Lib.add_plain] at c0
        rw [← c0]
        congr 2
        omega
      · rcases r1 with ⟨e,_⟩ | ⟨gg,oo,cc,e,hc⟩
        · exact Or.inl e
        · by_cases h0:txs=[]
          · exact Or.inl h0
          · refine Or.inr ⟨gg,oo,cc,e,fun hh=>?_⟩
            have:=World.block_lt_of_cell? W _ (hc 0 (List.length_pos_iff.2 h0))
            have hb:gg < W.heap.size:=this
            omega
end Go.Proofs.YtiefeeoellagnaaGreatDoor.V
