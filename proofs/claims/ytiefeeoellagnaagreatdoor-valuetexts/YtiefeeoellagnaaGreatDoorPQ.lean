import Derived.Test.YtiefeeoellagnaaGreatDoorPS
import Derived.Test.YtiefeeoellagnaaGreatDoorTL0
import Derived.Test.YtiefeeoellagnaaGreatDoorTX
import Derived.Test.YtiefeeoellagnaaGreatDoorTL3
import Derived.Test.YtiefeeoellagnaaGreatDoorTL4
import Derived.Test.YtiefeeoellagnaaGreatDoorTY
import Derived.Test.YtiefeeoellagnaaGreatDoorTZ
import Derived.Test.YtiefeeoellagnaaGreatDoorTW
import Derived.Test.YtiefeeoellagnaaGreatDoorTU
import Derived.Test.YtiefeeoellagnaaGreatDoorTV
import Derived.Test.YtiefeeoellagnaaGreatDoorII
namespace Go.Proofs.YtiefeeoellagnaaGreatDoor.V
open Go.RowKit
open S6 (Laid Lay)
set_option linter.unusedVariables false
set_option linter.unusedSimpArgs false
def TInv (n0 rv bv:Nat) (C:Array Value) (w:World):Prop:=∃ (t:ByteArray) (w0:World),w.heap[bv]?=some (vC 1 (txB t))∧RS C t∧t.size ≤ 524288∧n0 ≤ bv∧bv ≠ rv∧n0 ≤ rv∧Lay w0∧w0.heap.size ≤ n0∧Below w0.heap.size w0 w
theorem RS.set {C:Array Value} {t x:ByteArray} (h:RS C t):RS (C.set! 11 (.string x)) x:=by
  obtain ⟨h25,k0,k10,k11,k16,h1⟩:=h
  refine ⟨by simp [h25],?_,?_,?_,?_,?_⟩
  · rw [Array.set!_eq_setIfInBounds,Array.getElem?_setIfInBounds_ne (by decide)]; exact k0
  · rw [Array.set!_eq_setIfInBounds,Array.getElem?_setIfInBounds_ne (by decide)]; exact k10
  · rw [Array.set!_eq_setIfInBounds,Array.getElem?_setIfInBounds_self_of_lt (by omega)]
  · rw [Array.set!_eq_setIfInBounds,Array.getElem?_setIfInBounds_ne (by decide)]; exact k16
  · rw [Array.all_eq_true_iff_forall_mem]
    intro v hv
    rw [Array.set!_eq_setIfInBounds] at hv
    rcases Array.mem_or_eq_of_mem_setIfInBounds hv with h | h
    · exact (Array.all_eq_true_iff_forall_mem.1 h1) v h
    · rw [h]; rfl
theorem rawS {f:Nat} {xs:Array Value} {s:ByteArray} {w:World} (h:Calls Tryz.prog f xs w fun e w'=>∃ g,e=.returned (.slice (some ⟨g,0,none⟩) 1 1)∧w'.cell? ⟨g,0,none⟩=some (.string s)∧Below w.heap.size w w'):Calls Tryz.prog f xs w fun e w'=>∃ v,e=.returned v∧SRow w' v [s]∧Below w.heap.size w w':=
  h.mono fun e w' ⟨g,he,hc,hb⟩=>⟨_,he,Or.inr ⟨g,0,1,rfl,fun j hj=>by
    have h0:j=0:=by simp at hj; omega
    subst h0
    exact hc⟩,hb⟩
theorem t_as {n0 rv bv:Nat} {C:Array Value} {w:World} (h:TInv n0 rv bv C w):Calls Tryz.prog 10 #[.pointer (some ⟨bv,0,none⟩),.agg C] w fun e w'=>e=.returned (.bool true)∧Below w.heap.size w w':=by
  obtain ⟨t,w0,hv,hC,ht,_,_,_,hL,_,hb⟩:=h
  have hLw:∀ W,Below w.heap.size w W → Lay W:=fun W hW=>hL.on (hb.trans (hW.mono hb.size))
  exact as_gen bv C 1 t.size (48 + t.size) (encT t) [t] (by simp) hC.1 hC.2.1 w (fun W hW=>Kind_any bv 1 _ W (keep_row hv hW)) (fun W hW=>tx_Enc bv 1 t ht W (hLw W hW).laid (keep_row hv hW)) (fun W hW=>tx_Len bv 1 t W (keep_row hv hW)) (fun W hW=>tx_Size bv t ht W (keep_row hv hW)) (fun W hW=>rawS (tx_Raw bv 1 t ht W (keep_row hv hW))) (fun W hW=>ds_Enc C t hC ht W) (fun W hW=>ds_Len C t hC W) (fun W hW=>ds_Size C t hC ht W) (fun W hW=>rawS (ds_Raw C t hC W))
theorem t_asked {n0 rv bv:Nat} {C:Array Value} {w:World} {o:OpD} (h:TInv n0 rv bv C w) (ho:OpOk n0 o w):Calls Tryz.prog 11 #[.pointer (some ⟨bv,0,none⟩),.agg C,.agg (opA o)] w fun e w'=>e=.returned (.bool true)∧Below w.heap.size w w':=by
  obtain ⟨t,w0,hv,hC,ht,_,_,_,hL,_,hb⟩:=h
  exact asked_gen bv C (opA o) o.tv t (o.ts.headD ⟨#[]⟩) o.I o.N o.bk _ _ _ _ _ _ _ _ _ _ _ _ 0 4 4 4 4 4 4 hC.1 (opA_g o) w (fun W hW=>one_any o.tv o.ts W (ho.t.on hW)) (pg_tx bv t _ o.I o.N o.bk _ _ _ _ _ _ _ _ _ _ _ _ ht w hv) (dg_tx C t _ o.I o.N o.bk _ _ _ _ _ _ _ _ _ _ _ _ hC w)
theorem t_clone {n0 rv bv:Nat} {C:Array Value} {w:World} (h:TInv n0 rv bv C w) (hn:n0 ≤ w.heap.size) (hr:rv < w.heap.size):Calls Tryz.prog 8 #[.pointer (some ⟨bv,0,none⟩)] w fun e w'=>∃ b2,e=.returned (.pointer (some ⟨b2,0,none⟩))∧TInv n0 rv b2 C w'∧Below w.heap.size w w':=by
  obtain ⟨t,w0,hv,hC,ht,h1,h2,h3,hL,h4,hb⟩:=h
  refine (tx_Clone bv t ht w hv).mono ?_
  rintro e w' ⟨b2,rfl,hb2,hv2,hbw⟩
  exact ⟨b2,rfl,⟨t,w0,hv2,hC,ht,by omega,by omega,h3,hL,h4,hb.trans (hbw.mono hb.size)⟩,hbw⟩
theorem t_aft (bv:Nat) (t:ByteArray) (n:Nat) (h:bv < n):Aft n (fun _ W=>W.heap[bv]?=some (vC 1 (txB t))):=⟨fun _ _ _ _ h=>h,fun B W W' hp hm=>hm.row hp (fun e=>by have:=e.1; omega)⟩
theorem t_changed {n0 rv bv:Nat} {C:Array Value} {w:World} {o:OpD} (h:TInv n0 rv bv C w) (hn:n0 ≤ w.heap.size) (hr:rv < w.heap.size) (ho:OpOk n0 o w) (hk:o.k ≠ 12) (hk3:o.k < 13) :
    Calls Tryz.prog 9 #[.pointer (some ⟨bv,0,none⟩),.agg C,.agg (opA o)] w fun e w'=>∃ C' S,e=.returned (.tuple #[.agg C',.bool true])∧TInv n0 rv bv C' w'∧(∀ k,S k → n0 ≤ k∧k ≠ rv)∧ModS S w w':=by
  obtain ⟨t,w0,hv,hC,ht,h1,h2,h3,hL,h4,hb⟩:=h
  have hbv:bv < w.heap.size:=row_lt hv
  have hS:∀ k,(fun k=>k=bv) k → k < w.heap.size:=fun k e=>by have:k=bv:=e; omega
  have hot:SOut (fun k=>k=bv) o.tv o.ts:=ho.tu.weak (fun k e=>by have:k=bv:=e; omega)
  have hS2:∀ k,(fun k=>k=bv) k → n0 ≤ k∧k ≠ rv:=fun k e=>by have:k=bv:=e; subst this; exact ⟨h1,h2⟩
  have fin:∀ (C':Array Value) (t':ByteArray),RS C' t' → t'.size ≤ 524288 → (Calls Tryz.prog 9 #[.pointer (some ⟨bv,0,none⟩),.agg C,.agg (opA o)] w fun x w'=>x=.returned (.tuple #[.agg C',.bool true])∧(fun (_:Nat) (W:World)=>W.heap[bv]?=some (vC 1 (txB t'))) w.heap.size w'∧ModS (fun k=>k=bv) w w') →
      Calls Tryz.prog 9 #[.pointer (some ⟨bv,0,none⟩),.agg C,.agg (opA o)] w fun e w'=>∃ C' S,e=.returned (.tuple #[.agg C',.bool true])∧TInv n0 rv bv C' w'∧(∀ k,S k → n0 ≤ k∧k ≠ rv)∧ModS S w w':=fun C' t' hC' ht' hc=>hc.mono fun x w' hx=>by
    obtain ⟨rfl,hp,hm⟩:=hx
    exact ⟨C',_,rfl,⟨t',w0,hp,hC',ht',h1,h2,h3,hL,h4,hb.trans (hm.below (fun k e=>by have:k=bv:=e; omega) (by omega))⟩,hS2,hm⟩
  have ref:∀ (f:Nat) (xs:Array Value) (v:Value) (W:World),Below w.heap.size w W → (Calls Tryz.prog f xs W fun e w'=>e=.returned v∧Below W.heap.size W w') → ∀ B:Nat,Calls Tryz.prog f xs W fun x w'=>x=.returned v∧(fun (_:Nat) (W:World)=>W.heap[bv]?=some (vC 1 (txB t))) B w'∧ModS (fun k=>k=bv) W w':=fun f xs v W hW hc B=>hc.mono fun x w' hx=>⟨hx.1,keep_row (keep_row hv hW) hx.2,ModS.of hx.2⟩
  have nL:∀ W,Below w.heap.size w W → Not 78 (.pointer none) bv W:=fun W hW W' hW'=>asList_tx bv 1 t W' (keep_row (keep_row hv hW) hW')
  have nS:∀ W,Below w.heap.size w W → Not 67 .nilIface bv W:=fun W hW W' hW'=>asSet_tx bv 1 t W' (keep_row (keep_row hv hW) hW')
  have nH:∀ W,Below w.heap.size w W → Not 71 .nilIface bv W:=fun W hW W' hW'=>asHash_tx bv 1 t W' (keep_row (keep_row hv hW) hW')
  have nZ:∀ W,Below w.heap.size w W → Not 171 .nilIface bv W:=fun W hW W' hW'=>asZset_tx bv 1 t W' (keep_row (keep_row hv hW) hW')
  have h25:=hC.1
  have h1C:=hC.2.2.2.2.2
  have k0:=hC.2.1
  have hA:=t_aft bv t w.heap.size hbv
  obtain ⟨s0,hs0⟩:∃ s0,o.ts.headD ⟨#[]⟩=s0:=⟨_,rfl⟩
  have hO:=opA_k o
  by_cases q0:o.k=0
  · rw [q0] at hO
    by_cases hx:s0.size ≤ 524288
    · refine fin (C.set! 11 (.string s0)) s0 hC.set hx ?_
      exact changed_0 bv C (C.set! 11 (.string s0)) (opA o) o.tv o.fv o.sv o.ts s0 hs0 o.I o.N o.bk 0 (fun k=>k=bv) _ h25 (hC.set (x:=s0)).1 (hC.set (x:=s0)).2.2.2.2.2 hO ho.tl w ho.t ho.tn hS hot (t_aft bv s0 w.heap.size hbv)
        (fun B W mv hW _ _ _ _=>(SetText_ok bv 1 t s0 hx W (keep_row hv hW)).mono fun x w' h=>⟨h.1,h.2.1,ModS.mod h.2.2 rfl⟩)
        (fun W _ _=>ds_Set C t s0 hC hx W)
    · refine fin C t hC ht ?_
      exact changed_0 bv C C (opA o) o.tv o.fv o.sv o.ts s0 hs0 o.I o.N o.bk 2 (fun k=>k=bv) _ h25 h25 h1C hO ho.tl w ho.t ho.tn hS hot hA
        (fun B W mv hW _ _ _ _=>ref _ _ _ W hW (SetText_long bv 1 t s0 (by omega) W (keep_row hv hW)) B)
        (fun W _ _=>ds_SetLong C t s0 hC (by omega) W)
  refine fin C t hC ht ?_
  by_cases q1:o.k=1
  · rw [q1] at hO
    exact changed_1 bv C C (opA o) o.tv o.fv o.sv o.ts s0 hs0 o.I o.N o.bk 4 (fun k=>k=bv) _ h25 h25 h1C hO ho.tl w ho.t ho.tn hS hot hA
      (fun B W mv hW _ _ _ _=>ref _ _ _ W hW (Push_ref bv o.bk mv W (nL W hW)) B) (fun W _ _=>rPush_ref C 1 (by decide) k0 h25 h1C o.bk o.tv W)
  by_cases q2:o.k=2
  · rw [q2] at hO
    exact changed_2 bv C C (opA o) o.tv o.fv o.sv o.ts [] s0 hs0 o.I o.N o.bk 4 (fun k=>k=bv) _ h25 h25 h1C hO ho.tl (by simp) w ho.t ho.tn hS hot hA
      (fun B W mv hW _ _ _ _=>(ref _ _ _ W hW (Pop_ref bv o.bk o.N W (nL W hW)) B).mono fun x w' h=>⟨_,h.1,Or.inl ⟨rfl,none,0,rfl⟩,Or.inl rfl,h.2.1,h.2.2⟩)
      (fun W _ _=>(rPop_ref C 1 (by decide) k0 h25 h1C o.bk o.N W).mono fun x w' h=>⟨_,h.1,Or.inl ⟨rfl,none,0,rfl⟩,Or.inl rfl,h.2⟩)
  by_cases q3:o.k=3
  · rw [q3] at hO
    exact changed_3 bv C C (opA o) o.tv o.fv o.sv o.ts s0 hs0 o.I o.N o.bk 4 (fun k=>k=bv) _ h25 h25 h1C hO ho.tl w ho.t ho.tn hS hot hA
      (fun B W mv hW _ _ _ _=>ref _ _ _ W hW (SetAt_ref bv o.I s0 W (nL W hW)) B) (fun W _ _=>rSetAt_ref C 1 (by decide) k0 h25 h1C o.I s0 W)
  by_cases q4:o.k=4
  · rw [q4] at hO
    exact changed_4 bv C C (opA o) o.tv o.fv o.sv o.ts s0 hs0 o.I o.N o.bk 4 (fun k=>k=bv) _ h25 h25 h1C hO ho.tl w ho.t ho.tn hS hot hA
      (fun B W mv hW _ _ _ _=>ref _ _ _ W hW (Insert_ref bv o.I s0 W (nL W hW)) B) (fun W _ _=>rInsert_ref C 1 (by decide) k0 h25 h1C o.I s0 W)
  by_cases q5:o.k=5
  · rw [q5] at hO
    exact changed_5 bv C C (opA o) o.tv o.fv o.sv o.ts s0 hs0 o.I o.N o.bk 4 (fun k=>k=bv) _ h25 h25 h1C hO ho.tl w ho.t ho.tn hS hot hA
      (fun B W mv hW _ _ _ _=>ref _ _ _ W hW (Remove_ref bv o.I o.N W (nL W hW)) B) (fun W _ _=>rRemove_ref C 1 (by decide) k0 h25 h1C o.I o.N W)
  refine changed_m bv C C (opA o) o.k (by omega) o.tv o.fv o.sv o.ts s0 hs0 o.I o.N o.bk (fun k=>k=bv) _ h25 h25 h1C hO ho.tl w ho.t ho.tn hS hot hA (fun W hW=>?_)
  have hvW:=keep_row hv hW
  have hSW:∀ k,(fun k=>k=bv) k → k < W.heap.size:=fun k e=>Nat.lt_of_lt_of_le (hS k e) hW.size
  have hAW:=t_aft bv t W.heap.size (Nat.lt_of_lt_of_le hbv hW.size)
  have up:∀ W',Below W.heap.size W W' → Below w.heap.size w W':=fun W' h=>hW.trans (h.mono hW.size)
  by_cases q6:o.k=6
  · rw [q6] at hO
    exact members_6 bv C C (opA o) o.tv o.fv o.sv o.ts s0 hs0 o.I o.N o.bk 4 0 (fun k=>k=bv) _ h25 h25 h1C hO ho.tl W (ho.t.on hW) ho.tn hSW hot hAW
      (fun B W' mv hW' _ _ _ _=>ref _ _ _ W' (up W' hW') (Add_ref bv mv W' (nS W' (up W' hW'))) B) (fun W' _ _=>rAdd_ref C 1 (by decide) k0 h25 h1C o.tv W')
  by_cases q7:o.k=7
  · rw [q7] at hO
    exact members_7 bv C C (opA o) o.tv o.fv o.sv o.ts s0 hs0 o.I o.N o.bk 4 0 (fun k=>k=bv) _ h25 h25 h1C hO ho.tl W (ho.t.on hW) ho.tn hSW hot hAW
      (fun B W' mv hW' _ _ _ _=>ref _ _ _ W' (up W' hW') (Drop_ref bv mv W' (nS W' (up W' hW'))) B) (fun W' _ _=>rDrop_ref C 1 (by decide) k0 h25 h1C o.tv W')
  by_cases q8:o.k=8
  · rw [q8] at hO
    exact members_8 bv C C (opA o) o.tv o.fv o.sv o.ts s0 hs0 o.I o.N o.bk 4 0 (fun k=>k=bv) _ h25 h25 h1C hO ho.tl W (ho.t.on hW) ho.tn hSW hot hAW
      (fun B W' mv hW' _ _ _ _=>ref _ _ _ W' (up W' hW') (Put_ref bv o.fv W' (nH W' (up W' hW'))) B) (fun W' _ _=>rPut_ref C 1 (by decide) k0 h25 h1C o.fv W')
  by_cases q9:o.k=9
  · rw [q9] at hO
    exact members_9 bv C C (opA o) o.tv o.fv o.sv o.ts s0 hs0 o.I o.N o.bk 4 0 (fun k=>k=bv) _ h25 h25 h1C hO ho.tl W (ho.t.on hW) ho.tn hSW hot hAW
      (fun B W' mv hW' _ _ _ _=>ref _ _ _ W' (up W' hW') (Erase_ref bv mv W' (nH W' (up W' hW'))) B) (fun W' _ _=>rErase_ref C 1 (by decide) k0 h25 h1C o.tv W')
  by_cases q10:o.k=10
  · rw [q10] at hO
    exact members_10 bv C C (opA o) o.tv o.fv o.sv o.ts s0 hs0 o.I o.N o.bk 4 0 (fun k=>k=bv) _ h25 h25 h1C hO ho.tl W (ho.t.on hW) ho.tn hSW hot hAW
      (fun B W' mv hW' _ _ _ _=>ref _ _ _ W' (up W' hW') (ZAdd_ref bv o.sv W' (nZ W' (up W' hW'))) B) (fun W' _ _=>rZAdd_ref C 1 (by decide) k0 h25 h1C o.sv W')
  by_cases q11:o.k=11
  · rw [q11] at hO
    exact members_11 bv C C (opA o) o.tv o.fv o.sv o.ts s0 hs0 o.I o.N o.bk 4 0 (fun k=>k=bv) _ h25 h25 h1C hO ho.tl W (ho.t.on hW) ho.tn hSW hot hAW
      (fun B W' mv hW' _ _ _ _=>ref _ _ _ W' (up W' hW') (ZDrop_ref bv mv W' (nZ W' (up W' hW'))) B) (fun W' _ _=>rZDrop_ref C 1 (by decide) k0 h25 h1C o.tv W')
  exact members_no bv C (opA o) o.k (by omega) o.tv o.fv o.sv o.ts s0 hs0 o.I o.N o.bk (fun k=>k=bv) _ h25 h1C hO ho.tl W (ho.t.on hW) ho.tn hSW hot hAW (fun B W' hW' _ _=>keep_row hvW hW')
theorem t_ply:Ply TInv where
  sz:=fun h=>by obtain ⟨t,w0,hv,hC,_⟩:=h; exact ⟨hC.1,hC.2.2.2.2.2⟩
  on:=fun h hb=>by obtain ⟨t,w0,hv,hC,ht,h1,h2,h3,hL,h4,h5⟩:=h; exact ⟨t,w0,keep_row hv hb,hC,ht,h1,h2,h3,hL,h4,h5.trans (hb.mono h5.size)⟩
  st:=fun h hm=>by obtain ⟨t,w0,hv,hC,ht,h1,h2,h3,hL,h4,h5⟩:=h; exact ⟨t,w0,hm.row hv h2,hC,ht,h1,h2,h3,hL,h4,h5.trans (hm.below (by omega) h5.size)⟩
  qas:=t_as
  asked:=t_asked
  clone:=t_clone
  changed:=t_changed
end Go.Proofs.YtiefeeoellagnaaGreatDoor.V
namespace Go.Proofs.YtiefeeoellagnaaGreatDoor.V
open Go.RowKit
open S6 (Laid Lay)
set_option linter.unusedVariables false
set_option linter.unusedSimpArgs false
set_option maxHeartbeats 8000000 in
set_option maxRecDepth 20000 in
theorem plays_refG (k:Int) (t:TH) (C:Array Value) (p:Option Addr) (len cap:Nat) (h25:C.size=25) (h1:C.all (·.oneCell')=true) (w:World) (hL:Lay w)
    (hN:∀ W,Below w.heap.size w W → Calls Tryz.prog 5 #[.int .i64 k,thV t] W fun e w'=>e=.returned (.tuple #[.pointer none,.int .i64 1])∧Below W.heap.size W w')
    (hD:∀ W,Calls Tryz.prog 6 #[.int .i64 k,thV t] W fun e w'=>e=.returned (.tuple #[.agg C,.int .i64 1])∧Below W.heap.size W w') :
    Calls Tryz.prog 4 #[.int .i64 k,thV t,.slice p len cap] w fun e w'=>e=.returned (.bool true)∧Below w.heap.size w w':=by
  have HN:Hid _:=hN
  have HD:Hid _:=hD
  have HL:Hid _:=hL
  have h1c:Hid _:=h1
  clear hN hD hL h1
  obtain ⟨a,b,c,d,e,f,g,h,i⟩:=t
  unfold thV at *
  simp only [] at *
  obtain ⟨W1,hW1⟩:∃ W,W=w.alloc (.cells #[.int .i64 a,.int .i64 b,.int .i64 c,.int .i64 d,.int .i64 e,.int .i64 f,.int .i64 g,.int .i64 h,.int .i64 i] 23):=⟨_,rfl⟩
  obtain ⟨r,hr⟩:∃ r,w.heap.size=r:=⟨_,rfl⟩
  have HA:Hid (W1.heap[r]?=some (.cells #[.int .i64 a,.int .i64 b,.int .i64 c,.int .i64 d,.int .i64 e,.int .i64 f,.int .i64 g,.int .i64 h,.int .i64 i] 23)):=by rw [hW1,← hr]; exact one_alloc _ _
  have HB1:Hid (Below w.heap.size w W1):=by rw [hW1]; exact (Below.refl _ _).alloc (Nat.le_refl _) _
  have HRR:Hid (w.heap.size=r):=hr
  clear hr
  go_enter Tryz.func4,Tryz.ntmps4
  go_upto_region 1 with fail
  rw [← hW1,HRR.out]
  clear hW1
  obtain ⟨x0,x1,x2,x3,x4,x5,x6,x7,x8,xf⟩:=row9 HA.out
  go_wp2_with fail
  refine (show Calls _ _ _ _ _ from HN.out _ HB1.out).mono ?_
  rintro e w2 ⟨rfl,hb2⟩
  have HB2:Hid (Below w.heap.size w w2):=HB1.out.trans (hb2.mono HB1.out.size)
  have HA2:Hid _:=keep_row HA.out hb2
  clear x0 x1 x2 x3 x4 x5 x6 x7 x8 xf hb2
  obtain ⟨x0,x1,x2,x3,x4,x5,x6,x7,x8,xf⟩:=row9 HA2.out
  go_wp2_with fail
  refine (show Calls _ _ _ _ _ from HD.out _).mono ?_
  rintro e w3 ⟨rfl,hb3⟩
  have HB3:Hid (Below w.heap.size w w3):=HB2.out.trans (hb3.mono HB2.out.size)
  clear x0 x1 x2 x3 x4 x5 x6 x7 x8 xf hb3
  obtain ⟨Z,hZ⟩:∃ Z,Z=zC:=⟨_,rfl⟩
  have HZZ:Hid (Z=zC):=hZ
  have HZS:Hid (Z.size=25):=by rw [hZ]; rfl
  clear hZ
  go_wp2_with (first | refine alR rfl rfl Z HZZ.out ?_ | (refine stR rfl _ _ rfl w3.heap.size C Z rfl rfl h25 h1c.out HZS.out (one_alloc _ _) ?_; intro W4 hr4 hm4))
  have HB34:Hid (Below w3.heap.size w3 W4):=((Below.refl _ _).alloc (Nat.le_refl _) _).trans (hm4.below (Nat.le_refl _) (by simp))
  have HB4:Hid (Below w.heap.size w W4):=HB3.out.trans (HB34.out.mono HB3.out.size)
  clear hr4 hm4
  refine (show Calls _ _ _ _ _ from works_any _ (HL.out.on HB4.out)).mono ?_
  rintro e w5 ⟨rfl,hb5⟩
  have HB5:Hid (Below w.heap.size w w5):=HB4.out.trans (hb5.mono HB4.out.size)
  clear hb5
  rcases Nat.eq_zero_or_pos len with hz | hz
  · subst hz
    go_wp2
    go_rounds 1
    go_wp2
    go_returns
    exact ⟨rfl,HB5.out⟩
  · have hz1:(0:Int) < (len:Int):=by omega
    clear hz
    go_wp2
    go_rounds 1
    go_wp2
    go_returns
    exact ⟨rfl,HB5.out⟩
theorem OpAt.up {n0 n1:Nat} {W:World} {G q:Nat} {o:OpD} (h:OpAt n0 W G q o) (hn:n0 ≤ n1):OpAt n1 W G q o:=
  ⟨h.cells,⟨h.ok.t,h.ok.tn,h.ok.tl,h.ok.tu.weak fun k e=>by omega⟩⟩
theorem rV_rs (t:TH):∃ C,rV 1 t lpE 0 0 ⟨#[]⟩=.agg C∧RS C ⟨#[]⟩:=⟨_,rfl,⟨rfl,rfl,rfl,rfl,rfl,by kernel_rfl⟩⟩
theorem plays_t (t:TH) (ad:Option Addr) (len cap G off:Nat) (had:len ≠ 0 → ad=some ⟨G,off,none⟩) (hlen:len ≤ 9223372036854775807) (w:World) (hL:Lay w) (hops:∀ i,i < len → ∃ o,OpAt w.heap.size w G (off + i * 19) o) :
    Calls Tryz.prog 4 #[.int .i64 1,thV t,.slice ad len cap] w fun e w'=>e=.returned (.bool true)∧Below w.heap.size w w':=by
  cases ht:okT t with
  | false=>exact plays_refG 1 t rZ ad len cap rfl (by kernel_rfl) w hL (fun W _=>New_bad 1 t ht W) (fun W=>rNew_badT 1 (by decide) t ht W)
  | true =>
    obtain ⟨C,hCe,hC⟩:=rV_rs t
    refine plays_gen 1 t TInv t_ply C ad len cap G off had hlen w hL hC.1 hC.2.2.2.2.2 hops (fun W hW=>(New_str t ht W).mono ?_) (fun W=>by rw [← hCe]; exact rNew_plain 1 (Or.inl rfl) t ht W)
    rintro e w' ⟨bv,rfl,hbv,hv,hb⟩
    refine ⟨bv,rfl,hb,fun W2 rv hW2 hrv=>⟨⟨#[]⟩,w,keep_row hv hW2,hC,by decide,Nat.le_trans hW.size hbv,?_,?_,hL,Nat.le_refl _,hW.trans ((hb.mono hW.size).trans (hW2.mono (Nat.le_trans hW.size hb.size)))⟩⟩
    · have:=row_lt hv; omega
    · have:=hW.size; have:=hb.size; omega
set_option maxHeartbeats 2000000 in
set_option maxRecDepth 20000 in
theorem texts_walk (t:TH) (ad:Option Addr) (len cap G off:Nat) (had:len ≠ 0 → ad=some ⟨G,off,none⟩) (hlen:len ≤ 9223372036854775807) (w:World) (hL:Lay w) (hops:∀ i,i < len → ∃ o,OpAt w.heap.size w G (off + i * 19) o) :
    Calls Tryz.prog 3 #[thV t,.slice ad len cap] w fun e w'=>e=.returned (.bool true)∧Below w.heap.size w w':=by
  have HPL:Hid (∀ W,Below w.heap.size w W → Calls Tryz.prog 4 #[.int .i64 1,thV t,.slice ad len cap] W fun e w'=>e=.returned (.bool true)∧Below W.heap.size W w'):=fun W hW=>plays_t t ad len cap G off had hlen W (hL.on hW) (fun i hi=>by
    obtain ⟨o,ho⟩:=hops i hi
    exact ⟨o,(ho.keep hW).up hW.size⟩)
  clear had hlen hL hops
  obtain ⟨a,b,c,d,e,f,g,h,i⟩:=t
  unfold thV at *
  simp only [] at *
  obtain ⟨W1,hW1⟩:∃ W,W=w.alloc (.cells #[.int .i64 a,.int .i64 b,.int .i64 c,.int .i64 d,.int .i64 e,.int .i64 f,.int .i64 g,.int .i64 h,.int .i64 i] 23):=⟨_,rfl⟩
  obtain ⟨r,hr⟩:∃ r,w.heap.size=r:=⟨_,rfl⟩
  have HA:Hid (W1.heap[r]?=some (.cells #[.int .i64 a,.int .i64 b,.int .i64 c,.int .i64 d,.int .i64 e,.int .i64 f,.int .i64 g,.int .i64 h,.int .i64 i] 23)):=by rw [hW1,← hr]; exact one_alloc _ _
  have HB1:Hid (Below w.heap.size w W1):=by rw [hW1]; exact (Below.refl _ _).alloc (Nat.le_refl _) _
  have HRR:Hid (w.heap.size=r):=hr
  clear hr
  go_enter Tryz.func3,Tryz.ntmps3
  go_upto_region 1 with fail
  rw [← hW1,HRR.out]
  clear hW1
  obtain ⟨x0,x1,x2,x3,x4,x5,x6,x7,x8,xf⟩:=row9 HA.out
  go_wp2_with fail
  refine (show Calls _ _ _ _ _ from HPL.out _ HB1.out).mono ?_
  rintro e w2 ⟨rfl,hb2⟩
  have HB2:Hid (Below w.heap.size w w2):=HB1.out.trans (hb2.mono HB1.out.size)
  clear x0 x1 x2 x3 x4 x5 x6 x7 x8 xf hb2
  go_wp2
  go_returns
  exact ⟨rfl,HB2.out⟩
end Go.Proofs.YtiefeeoellagnaaGreatDoor.V
