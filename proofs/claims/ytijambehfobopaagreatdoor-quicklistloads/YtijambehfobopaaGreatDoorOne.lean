import Derived.Test.YtijambehfobopaaGreatDoorWAE
import Derived.Test.YtijambehfobopaaGreatDoorWAH
namespace Go.Proofs.YtijambehfobopaaGreatDoor
open Go.RowKit
set_option linter.unusedVariables false
theorem size_any (it:LM.Item) (L:Nat) (hk:(it.isN=true∧it.txt=[]∧LM.I64 it.num) ∨ (it.isN=false∧it.num=0∧it.txt.length ≤ L)) (hL:L ≤ 4294967296) (w:World) (hw:Wid w) :
    Calls Tryz.prog 122 #[.agg #[.string (strB it.txt),.int .i64 it.num,.bool it.isN]] w fun e w'=>e=.returned (.int .i64 (LM.dsize it:Nat))∧Below w.heap.size w w':=by
  obtain ⟨t,n,q⟩:=it
  rcases hk with ⟨h1,h2,h3⟩ | ⟨h1,h2,h3⟩
  · simp only at h1 h2 h3; subst h1
    exact size_num n _ h3 w hw
  · simp only at h1 h2 h3; subst h1
    have:=size_txt n (strB t) (by rw [strB_size]; omega) w
    rw [strB_size] at this
    exact this
theorem ends {X:Prop} (w:World) (h:X) (_:wpAny Tryz.prog .any #[] (fun _ _ _=>True) 0 #[] { tmps:=#[],defers:=[] } w):X:=h
def oneP (b:ByteArray) (w:World) (t:List UInt8) (m:Int) (q:Bool) (a n:Nat) (x:Ending) (w':World):Prop:=
  ((x=.returned (.tuple #[])∧LM.okEnt b.data.toList ⟨0,⟨t,m,q⟩,a,n⟩) ∨ (x=.panicked pch∧¬ LM.okEnt b.data.toList ⟨0,⟨t,m,q⟩,a,n⟩))∧Below w.heap.size w w'
theorem oneP_no {b:ByteArray} {w w':World} {t:List UInt8} {m:Int} {q:Bool} {a n:Nat} (h:¬ LM.okEnt b.data.toList ⟨0,⟨t,m,q⟩,a,n⟩) (hb:Below w.heap.size w w'):oneP b w t m q a n (.panicked pch) w':=⟨Or.inr ⟨rfl,h⟩,hb⟩
set_option maxHeartbeats 2000000 in
set_option maxRecDepth 100000 in
theorem one_bad1 (b:ByteArray) (c:Int) (t:List UInt8) (m:Int) (q:Bool) (a n:Nat) (D nz:Int) (hs:b.size ≤ 1073741824) (ha:a < b.size) (ht:t.length ≤ 1073741824)
    (hS:∀ W,Wid W → Calls Tryz.prog 122 #[.agg #[.string (strB t),.int .i64 m,.bool q]] W fun e w'=>e=.returned (.int .i64 D)∧Below W.heap.size W w')
    (hno:¬ LM.okEnt b.data.toList ⟨0,⟨t,m,q⟩,a,n⟩) (hD:¬ (D=nz∧t.length ≤ 524288)) (w:World) (hw:Lay w) :
    Calls Tryz.prog 108 #[.agg #[.string b,.int .i64 c],.agg #[.string (strB t),.int .i64 m,.bool q,.int .i64 (a:Int),.int .i64 nz]] w (oneP b w t m q a n):=by
  have HS:Hid _:=hS
  have HNO:Hid _:=hno
  have hTs:(strB t).size=t.length:=strB_size t
  generalize strB t=T at *
  obtain ⟨W1,hW1⟩:∃ W1,W1=(w.alloc (.cells #[.string b,.int .i64 c] 131)).alloc (.cells #[.string T,.int .i64 m,.bool q,.int .i64 (a:Int),.int .i64 nz] 159):=⟨_,rfl⟩
  have HB1:Hid (Below w.heap.size w W1):=by rw [hW1]; exact ((Below.refl _ w).alloc (Nat.le_refl _) _).alloc (by simp) _
  have HG:Hid (W1.heap[w.heap.size + 1]?=some (.cells #[.string T,.int .i64 m,.bool q,.int .i64 (a:Int),.int .i64 nz] 159)):=by
    rw [hW1]; have:=one_alloc (w.alloc (.cells #[.string b,.int .i64 c] 131)) (.cells #[.string T,.int .i64 m,.bool q,.int .i64 (a:Int),.int .i64 nz] 159)
    rwa [World.size_alloc] at this
  obtain ⟨d0,d1,d2,d3,d4,df⟩:=row5 HG.out
  have HLW:Hid (Wid W1.drew):=(hw.wid.on HB1.out).on (Below.drew (Below.refl _ _))
  have hlt:=row_lt HG.out
  clear hw hS hno
  by_cases h1:D=nz
  · have h2:¬ t.length ≤ 524288:=fun h=>hD ⟨h1,h⟩
    have hdn:(D == nz)=true:=by simpa using h1
    clear h1
    have hde:decide ((t.length:Int) ≤ 524288)=false:=dec_f (by omega)
    go_enter Tryz.func108,Tryz.ntmps108
    go_wp2_with fail
    rw [← hW1]
    clear hW1
    first
    | go_region_with (first
      | (go_at_call 122; refine (show Calls _ _ _ _ _ from HS.out _ HLW.out).mono ?_; rintro e w2 ⟨rfl,hb2⟩; obtain ⟨k0,k1,k2,k3,k4,kf⟩:=row5 (keep_row (w:=W1.drew) HG.out hb2); have hb3:=bel_to ((below_dn HB1.out 1)) hb2 (Nat.le_refl _); clear hb2)
      | (go_at_call 105; refine (must_bad _).mono ?_; rintro e w3 ⟨rfl,rfl⟩; refine ends w (show bodyPost _ _ _ (Exit.panic pch) _ _ from ⟨rfl,oneP_no HNO.out hb3⟩) ?_))
    | fail
    all_goals trivial
  · have hdn:(D == nz)=false:=by simpa using h1
    go_enter Tryz.func108,Tryz.ntmps108
    go_wp2_with fail
    rw [← hW1]
    clear hW1
    first
    | go_region_with (first
      | (go_at_call 122; refine (show Calls _ _ _ _ _ from HS.out _ HLW.out).mono ?_; rintro e w2 ⟨rfl,hb2⟩; obtain ⟨k0,k1,k2,k3,k4,kf⟩:=row5 (keep_row (w:=W1.drew) HG.out hb2); have hb3:=bel_to ((below_dn HB1.out 1)) hb2 (Nat.le_refl _); clear hb2)
      | (go_at_call 105; refine (must_bad _).mono ?_; rintro e w3 ⟨rfl,rfl⟩; refine ends w (show bodyPost _ _ _ (Exit.panic pch) _ _ from ⟨rfl,oneP_no HNO.out hb3⟩) ?_))
    | fail
    all_goals trivial
end Go.Proofs.YtijambehfobopaaGreatDoor
