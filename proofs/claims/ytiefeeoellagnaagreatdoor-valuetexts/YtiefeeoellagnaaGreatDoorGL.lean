import Derived.Test.YtiefeeoellagnaaGreatDoorGA
import Derived.Test.YtiefeeoellagnaaGreatDoorSortI
import Derived.Shelf.SlIterI.Sorted
import Derived.Shelf.SlIterI.Keys
import Derived.Shelf.SlIterI.Nil
import Derived.Maps.OwnSet
namespace Go.Proofs.YtiefeeoellagnaaGreatDoor.V
open Go.RowKit Go.Maps Go.Sort Go.Shelf
set_option linter.unusedVariables false
def rhoZ:Ren:=⟨fun x=>if x=6 then 496 else if x=7 then 497 else if x=8 then 505 else if x=9 then 506 else if x=10 then 507 else if x=11 then 514 else x,
  fun x=>if x=23 then 595 else if x=3 then 312 else if x=24 then 35 else if x=26 then 3 else if x=27 then 597 else if x=28 then 598 else if x=33 then 259 else x,fun x=>x⟩
theorem lz6:SlLaysZI.n6 Tryz.prog rhoZ:={
  mixed:=by kernel_rfl
  f6:=⟨Tryz.f496.name,by kernel_rfl,by kernel_rfl⟩
  f8:=⟨Tryz.f505.name,by kernel_rfl,by kernel_rfl⟩
  f11:=⟨Tryz.f514.name,by kernel_rfl,by kernel_rfl⟩
  t0:=by kernel_rfl
  a0:=fun w=>by kernel_rfl
  z0:=fun w=>by kernel_rfl
  v0:=fun w=>by kernel_rfl
  t24:=by kernel_rfl
  a24:=fun w=>by kernel_rfl
  z24:=fun w=>by kernel_rfl
  v24:=fun w=>by kernel_rfl
  t26:=by kernel_rfl
  a26:=fun w=>by kernel_rfl
  z26:=fun w=>by kernel_rfl
  v26:=fun w=>by kernel_rfl
  t28:=by kernel_rfl
  a28:=fun w=>by kernel_rfl
  z28:=fun w=>by kernel_rfl
  v28:=fun w=>by kernel_rfl
  i26:=by kernel_rfl
}
theorem lz7:SlLaysZI.n7 Tryz.prog rhoZ:={
  mixed:=by kernel_rfl
  f7:=⟨Tryz.f497.name,by kernel_rfl,by kernel_rfl⟩
  f10:=⟨Tryz.f507.name,by kernel_rfl,by kernel_rfl⟩
  t0:=by kernel_rfl
  a0:=fun w=>by kernel_rfl
  z0:=fun w=>by kernel_rfl
  v0:=fun w=>by kernel_rfl
  t4:=by kernel_rfl
  a4:=fun w=>by kernel_rfl
  z4:=fun w=>by kernel_rfl
  v4:=fun w=>by kernel_rfl
  t23:=by kernel_rfl
  a23:=fun w=>by kernel_rfl
  z23:=fun w=>by kernel_rfl
  v23:=fun w=>by kernel_rfl
  t26:=by kernel_rfl
  a26:=fun w=>by kernel_rfl
  z26:=fun w=>by kernel_rfl
  v26:=fun w=>by kernel_rfl
  t27:=by kernel_rfl
  a27:=fun w=>by kernel_rfl
  z27:=fun w=>by kernel_rfl
  v27:=fun w=>by kernel_rfl
  t28:=by kernel_rfl
  a28:=fun w=>by kernel_rfl
  z28:=fun w=>by kernel_rfl
  v28:=fun w=>by kernel_rfl
  t33:=by kernel_rfl
  a33:=fun w=>by kernel_rfl
  z33:=fun w=>by kernel_rfl
  v33:=fun w=>by kernel_rfl
}
theorem lz10:SlLaysZI.n10 Tryz.prog rhoZ:={
  mixed:=by kernel_rfl
  f10:=⟨Tryz.f507.name,by kernel_rfl,by kernel_rfl⟩
  t0:=by kernel_rfl
  a0:=fun w=>by kernel_rfl
  z0:=fun w=>by kernel_rfl
  v0:=fun w=>by kernel_rfl
  t4:=by kernel_rfl
  a4:=fun w=>by kernel_rfl
  z4:=fun w=>by kernel_rfl
  v4:=fun w=>by kernel_rfl
  t23:=by kernel_rfl
  a23:=fun w=>by kernel_rfl
  z23:=fun w=>by kernel_rfl
  v23:=fun w=>by kernel_rfl
  t26:=by kernel_rfl
  a26:=fun w=>by kernel_rfl
  z26:=fun w=>by kernel_rfl
  v26:=fun w=>by kernel_rfl
  t33:=by kernel_rfl
  a33:=fun w=>by kernel_rfl
  z33:=fun w=>by kernel_rfl
  v33:=fun w=>by kernel_rfl
}
end Go.Proofs.YtiefeeoellagnaaGreatDoor.V
namespace Go.Proofs.YtiefeeoellagnaaGreatDoor.V
open Go.RowKit Go.Maps Go.Sort Go.Shelf
set_option linter.unusedVariables false
theorem Keys_any (mb:Option Nat) (W:World):Calls Tryz.prog 497 #[.map mb] W fun e w'=>e=.returned (.func (.func 507) #[] #[.pointer (some ⟨W.heap.size,0,none⟩)])∧w'=W.alloc (.cells #[.map mb] 595):=
  (callsIn_wide (n:=5)).1 (AnyZI.keys_in lz7 Fence.wide 5 trivial rfl mb W)
theorem sortsZ (m:Nat):AnyZI.SortsIn Tryz.prog rhoZ Fence.wide m:=
  ⟨fun blk off cap ss W hH hblk hsz=>callsIn_wide.2 (Tryz.slices_Sort_int blk off cap ss W hH hblk hsz),fun p cap W=>callsIn_wide.2 (Tryz.slices_Sort_int_none p cap W)⟩
set_option maxHeartbeats 1000000 in
theorem Sorted_keys (b nn:Nat) (D0:DataW Unit) (w:World) (hown:w.ownsMap Tryz.prog 3 unitElem b nn D0) (hmax:Maps.size D0 ≤ maxLen) (hbytes:Maps.size D0 * 8 ≤ 140737488355328) :
    Calls Tryz.prog 496 #[.func (.func 507) #[] #[.pointer (some ⟨w.heap.size,0,none⟩)]] (w.alloc (.cells #[.map (some b)] 595)) fun e w'=>∃ (v:Value) (ss:List Int),e=.returned v∧ss.Perm (intKeys D0) ∧
      w'.ownsRow w.heap.size 3 1 v ss.length ((ss.mergeSort (fun x y=>decide (x ≤ y))).map encZ)∧Below w.heap.size w w':=by
  have hbl:=hown.lt
  have hseq:SeqGives Fence.wide 2 Tryz.prog 507 #[.pointer (some ⟨w.heap.size,0,none⟩)] encZ (fun ss=>ss.Perm (intKeys D0)) (Maps.size D0) (w.alloc (.cells #[.map (some b)] 595)):=
    AnyZI.keys_gives (ρ:=rhoZ) lz10 Fence.wide _ trivial rfl (by omega) w.heap.size b nn D0 _ (by simp) (by simp) (by
      obtain ⟨es,clock,hb,Ft,hs,hD⟩:=hown
      exact ⟨es,clock,(Below.heap_alloc _ _ b hbl).trans hb,Ft,hs,hD⟩)
  have cS:=AnyZI.sorted_in lz6 Fence.wide 5 trivial trivial trivial trivial rfl (by omega) (sortsZ _) (enters_of Tryz.func506 (by kernel_rfl) rfl) 507 #[.pointer (some ⟨w.heap.size,0,none⟩)] trivial (enters_of Tryz.func507 (by kernel_rfl) rfl) _ _ hmax hbytes _ hseq
  change CallsIn _ _ Tryz.prog 496 _ _ _ at cS
  refine ((callsIn_wide (n:=5)).1 cS).mono ?_
  rintro e w' ⟨v,ss,rfl,hS,hrow,hnil,hb⟩
  exact ⟨v,ss,rfl,hS,ownsRow_base_a hrow (by simp),((Below.refl _ w).alloc (Nat.le_refl _) _).trans (hb.mono (by simp))⟩
end Go.Proofs.YtiefeeoellagnaaGreatDoor.V
