import Derived.Test.YtiefeeoellagnaaGreatDoorFB
import Derived.Test.YtiefeeoellagnaaGreatDoorFE
import Derived.Test.YtiefeeoellagnaaGreatDoorAN
import Derived.Test.YtiefeeoellagnaaGreatDoorShelf
namespace Go.Proofs.YtiefeeoellagnaaGreatDoor.S5
open Go.RowKit IM
set_option linter.unusedVariables false
theorem beq_dec (a b:Int):(a == b)=decide (a=b):=by
  by_cases h:a=b
  · subst h; simp
  · simp [h]
theorem bel_dr {B:Nat} {w w1 w':World} (h:Below B w w1) (hb:Below w1.drew.heap.size w1.drew w') (hs:B ≤ w1.heap.size):Below B w w':=(Below.drew h).trans (hb.mono hs)
theorem risesB_iff (W C:Nat) (l:List UInt8):risesB W C l=true ↔ ∀ i,i + 1 < C → numAt W l i < numAt W l (i + 1):=by
  unfold risesB
  rw [decide_eq_true_eq]
  constructor
  · intro h i hi; exact h i (by omega)
  · intro h i hi; exact h i (by omega)
theorem parse_set (p:ByteArray) (W:Nat) (l:List Int) (h:IsSet p.data.toList W l) (w:World) :
    Calls Tryz.prog 379 #[.string p] w fun e w'=>e=.returned (.tuple #[setV p W l.length,.bool true])∧Below w.heap.size w w':=by
  have ho:=h.ok
  have e1:=h.wid_eq; have e2:=h.cnt_eq
  have hl:=ho.len; have h8:=ho.len8
  rw [list_len] at hl h8
  have hp:p.size ≤ 9223372036854775807:=by
    have:cnt p.data.toList * wid p.data.toList ≤ 1048576 * 8:=Nat.mul_le_mul ho.many (by rcases ho.w3 with h | h | h <;> omega)
    omega
  have:=parse_ok p h8 hp ho.w3 ho.many hl ((risesB_iff _ _ _).2 ho.rise) w
  rw [e1,e2] at this
  exact this
theorem set_size {p:ByteArray} {W:Nat} {l:List Int} (h:IsSet p.data.toList W l):p.size=8 + l.length * W:=by rw [← list_len]; exact h.size
theorem pos_of {l:List Int} {n:Int} {r:Nat} (N:Nat → Int) (hN:∀ t,(h:t < l.length) → N t=l[t]) (hr:r ≤ l.length) (h1:∀ t,t < r → decide (n ≤ N t)=false) (h2:∀ t,r ≤ t → t < l.length → decide (n ≤ N t)=true):r=pos l n:=by
  refine (pos_eq l n r hr ?_ ?_).symm
  · intro j hj hjr
    have:=of_decide_eq_false (h1 j hjr); rw [hN j hj] at this; omega
  · intro j hj hjr
    have:=of_decide_eq_true (h2 j hjr hj); rw [hN j hj] at this; exact this
theorem mem_pos {l:List Int} (hr:Rise l) (n:Int) (N:Nat → Int) (hN:∀ t,(h:t < l.length) → N t=l[t]):decide (n ∈ l)=(decide (pos l n < l.length) && decide (N (pos l n)=n)):=by
  rw [Bool.eq_iff_iff,Bool.and_eq_true,decide_eq_true_eq,decide_eq_true_eq,decide_eq_true_eq,pos_mem hr n]
  constructor
  · rintro ⟨h,e⟩; exact ⟨h,by rw [hN _ h]; exact e⟩
  · rintro ⟨h,e⟩; exact ⟨h,by rw [hN _ h] at e; exact e⟩
set_option maxHeartbeats 400000 in
set_option maxRecDepth 100000 in
theorem find_any (p:ByteArray) (W:Nat) (l:List Int) (h:IsSet p.data.toList W l) (n:Int) (w:World) :
    Calls Tryz.prog 512 #[setV p W l.length,.int .i64 n] w fun e w'=>e=.returned (.tuple #[.int .i64 (pos l n:Nat),.bool (decide (n ∈ l))])∧Below w.heap.size w w':=by
  have hs:=set_size h
  have hp:p.size ≤ 4294967296:=by
    have:l.length * W ≤ 1048576 * 8:=Nat.mul_le_mul h.len (by rcases h.w3 with rfl | rfl | rfl <;> omega)
    omega
  have hN:=h.at
  have hmono:∀ a b,a ≤ b → b < l.length → decide (n ≤ numAt W p.data.toList a)=true → decide (n ≤ numAt W p.data.toList b)=true:=by
    intro a b hab hb ha
    rw [hN a (by omega),decide_eq_true_eq] at ha
    rw [hN b hb,decide_eq_true_eq]
    rcases Nat.eq_or_lt_of_le hab with e | hlt
    · subst e; exact ha
    · have:=h.rise.lt a b hlt hb; omega
  have HA:Hid (∀ i,i < l.length → ∀ W',Calls Tryz.prog 380 #[setV p W l.length,.int .i64 i] W' fun e w'=>e=.returned (.int .i64 (numAt W p.data.toList i))∧Below W'.heap.size W' w'):=fun i hi W'=>at_any p W _ i h.w3 (place_le hi hs) hp W'
  have HM:Hid _:=mem_pos h.rise n (numAt W p.data.toList) hN
  have HP:Hid (∀ r,r ≤ l.length → (∀ t,t < r → decide (n ≤ numAt W p.data.toList t)=false) → (∀ t,r ≤ t → t < l.length → decide (n ≤ numAt W p.data.toList t)=true) → r=pos l n):=fun r hr h1 h2=>pos_of (numAt W p.data.toList) hN hr h1 h2
  have H3:Hid (W3 W):=h.w3
  have hlen:=h.len
  have hple:=pos_le l n
  have HMO:Hid _:=hmono
  clear h hN hmono
  generalize hX:pos l n=X at *
  unfold setV at *
  obtain ⟨W0,hW0⟩:∃ W0,W0=(w.alloc (.cells #[.string p,.int .i64 (W:Int),.int .i64 (l.length:Int)] 507)).alloc (.cells #[.int .i64 n] 3):=⟨_,rfl⟩
  have hz:W0.heap.size=w.heap.size + 1 + 1:=by rw [hW0]; simp
  have K0:Hid (W0.cell? ⟨w.heap.size,0,none⟩=some (.string p)):=by rw [hW0]; exact (by simp [go_sem]:((w.alloc (.cells #[.string p,.int .i64 (W:Int),.int .i64 (l.length:Int)] 507)).alloc (.cells #[.int .i64 n] 3)).cell? ⟨w.heap.size,0,none⟩=some (.string p))
  have K1:Hid (W0.cell? ⟨w.heap.size,1,none⟩=some (.int .i64 (W:Int))):=by rw [hW0]; exact (by simp [go_sem]:((w.alloc (.cells #[.string p,.int .i64 (W:Int),.int .i64 (l.length:Int)] 507)).alloc (.cells #[.int .i64 n] 3)).cell? ⟨w.heap.size,1,none⟩=some (.int .i64 (W:Int)))
  have K2:Hid (W0.cell? ⟨w.heap.size,2,none⟩=some (.int .i64 (l.length:Int))):=by rw [hW0]; exact (by simp [go_sem]:((w.alloc (.cells #[.string p,.int .i64 (W:Int),.int .i64 (l.length:Int)] 507)).alloc (.cells #[.int .i64 n] 3)).cell? ⟨w.heap.size,2,none⟩=some (.int .i64 (l.length:Int)))
  have KF:Hid (W0.cell? ⟨w.heap.size + 1,0,none⟩=some (.int .i64 n)):=by rw [hW0]; exact (by simp [go_sem]:((w.alloc (.cells #[.string p,.int .i64 (W:Int),.int .i64 (l.length:Int)] 507)).alloc (.cells #[.int .i64 n] 3)).cell? ⟨w.heap.size + 1,0,none⟩=some (.int .i64 n))
  have HB0:Hid (Below w.heap.size w W0):=by rw [hW0]; exact ((Below.refl _ w).alloc (Nat.le_refl _) _).alloc (by simp) _
  go_enter Tryz.func512,Tryz.ntmps512
  go_wp2_with fail
  rw [← hW0]
  refine (first_any 518 #[.pointer (some ⟨w.heap.size + 1,0,none⟩)] p W l.length (fun m=>decide (n ≤ m)) H3.out hlen hs W0 (enters_my Tryz.func518 (by kernel_rfl) rfl)
    (fun m W' hW'=>geq_any (w.heap.size + 1) m n W' ((cell_below hW' (by rw [hz]; show w.heap.size + 1 < _; omega)).trans KF.out)) HMO.out).mono ?_
  rintro e w1 ⟨r,rfl,hr,h1,h2,hb⟩
  have hrX:=HP.out r hr h1 h2
  subst hrX
  have hz1:=hb.size
  have k0:w1.cell? ⟨w.heap.size,0,none⟩=some (.string p):=(cell_below hb (by rw [hz]; show w.heap.size < _; omega)).trans K0.out
  have k1:w1.cell? ⟨w.heap.size,1,none⟩=some (.int .i64 (W:Int)):=(cell_below hb (by rw [hz]; show w.heap.size < _; omega)).trans K1.out
  have k2:w1.cell? ⟨w.heap.size,2,none⟩=some (.int .i64 (l.length:Int)):=(cell_below hb (by rw [hz]; show w.heap.size < _; omega)).trans K2.out
  have kf:w1.cell? ⟨w.heap.size + 1,0,none⟩=some (.int .i64 n):=(cell_below hb (by rw [hz]; show w.heap.size + 1 < _; omega)).trans KF.out
  have HB:Hid (Below w.heap.size w w1):=HB0.out.trans (hb.mono (by omega))
  clear h1 h2 hb
  by_cases hlt:r < l.length
  · have hlz:(r:Int) < (l.length:Int):=by omega
    have hlb:decide ((r:Int) < (l.length:Int))=true:=decide_eq_true hlz
    have HMT:Hid (decide (n ∈ l)=(numAt W p.data.toList r == n)):=by rw [HM.out,decide_eq_true hlt,Bool.true_and]; exact (beq_dec _ _).symm
    have hw1:w.heap.size + 1 + 1 ≤ w1.heap.size:=by omega
    go_wp2
    go_region_with (go_at_call 380; refine (HA.out r hlt _).mono ?_; rintro e w' ⟨rfl,hb⟩; have kf':w'.cell? ⟨w.heap.size + 1,0,none⟩=some (.int .i64 n):=(cell_below hb (show w.heap.size + 1 < w1.heap.size by omega)).trans kf; have k2':w'.cell? ⟨w.heap.size,2,none⟩=some (.int .i64 (l.length:Int)):=(cell_below hb (show w.heap.size < w1.heap.size by omega)).trans k2; have hbz:Below w.heap.size w w':=bel_dr HB.out hb (by omega); clear hb)
    all_goals go_wp2
    all_goals go_ret2
    all_goals exact ⟨by rw [HMT.out]; rfl,hbz⟩
  · have hlb:decide ((r:Int) < (l.length:Int))=false:=decide_eq_false (by omega)
    have HMT:Hid (decide (n ∈ l)=false):=by rw [HM.out,decide_eq_false hlt,Bool.false_and]; exact rfl
    go_wp2
    go_quiet (fail)
    go_wp2
    go_ret2
    exact ⟨by rw [HMT.out]; rfl,below_dn HB.out _⟩
end Go.Proofs.YtiefeeoellagnaaGreatDoor.S5
namespace Go.Proofs.YtiefeeoellagnaaGreatDoor.S6
open Go.RowKit Vi
set_option linter.unusedVariables false
def tl (l:List UInt8):List UInt8:=l.drop 1
theorem head_tl (s:ByteArray) (h:0 < s.size):s.data.toList=s[0] :: tl s.data.toList:=by
  have:=drop_more s.data.toList 0 s[0] (at_list s 0 h)
  simpa [tl] using this
theorem full_str (s:ByteArray) (h:0 < s.size):s.toList.isEmpty=false:=by
  rw [ByteArray.toList_eq,head_tl s h]; rfl
theorem empty_str (s:ByteArray) (h:s.size=0):s=⟨#[]⟩:=by
  apply WideShapes.bytes_inj
  have:=list_len s
  rw [h] at this
  rw [List.length_eq_zero_iff.1 this]
theorem var_on {n:String} {cs:Array Value} {w w':World} (h:w.var? Tryz.prog n=some cs) (hb:Below w.heap.size w w'):w'.var? Tryz.prog n=some cs:=by
  unfold World.var? at h ⊢
  cases hg:Tryz.prog.globalNamed n with
  | none=>rw [hg] at h; simp at h
  | some g =>
    rw [hg] at h
    simp only [Option.bind_some] at h ⊢
    have hlt:g < w.heap.size:=by
      rcases Nat.lt_or_ge g w.heap.size with h' | h'
      · exact h'
      · rw [Array.getElem?_eq_none h'] at h; cases h
    rw [hb.block g hlt]
    exact h
structure Laid (w:World):Prop where
  tab:Lib.TabIs Tryz.prog w "internal/strconv.uint64pow10" .u64 Lib.pow10Tab
  syn:∃ tp p,w.var? Tryz.prog "strconv.ErrSyntax"=some #[.iface tp p]
  rng:∃ tp p,w.var? Tryz.prog "strconv.ErrRange"=some #[.iface tp p]
theorem Laid.on {w w':World} (h:Laid w) (hb:Below w.heap.size w w'):Laid w':=by
  refine ⟨?_,?_,?_⟩
  · exact var_on h.tab hb
  · obtain ⟨tp,p,e⟩:=h.syn
    exact ⟨tp,p,var_on e hb⟩
  · obtain ⟨tp,p,e⟩:=h.rng
    exact ⟨tp,p,var_on e hb⟩
theorem below_grow (w:World) (k:Nat) (os:Array Obj):Below w.heap.size w (Sort.grow (w.drewN k) os):=
  ⟨rfl,rfl,rfl,by simp [Sort.grow],fun j hj=>by simp [Sort.grow,Array.getElem?_append,hj]⟩

def numT (l:List UInt8):Value:=match numberOf l with
  | some v=>.tuple #[.int .i64 v,.bool true]
  | none=>.tuple #[.int .i64 0,.bool false]
theorem numT_some {l:List UInt8} {v:Int} (h:numberOf l=some v):numT l=.tuple #[.int .i64 v,.bool true]:=by unfold numT; rw [h]
theorem numT_none {l:List UInt8} (h:numberOf l=none):numT l=.tuple #[.int .i64 0,.bool false]:=by unfold numT; rw [h]

def bodyB (s:ByteArray):ByteArray:=⟨(body s.data.toList).toArray⟩
theorem bodyB_list (s:ByteArray):(bodyB s).data.toList=body s.data.toList:=by unfold bodyB; simp
theorem trim_any (s:ByteArray) (w:World) :
    Calls Tryz.prog 359 #[.string s,.string ⟨#[45]⟩] w fun e w'=>e=.returned (.string (bodyB s))∧w'=w:=
  Tryz.strings_TrimPrefix s ⟨#[45]⟩ w

theorem zero_same {s:ByteArray} (h:s.data.toList=[48]):(s.toList == [48])=true:=by rw [ByteArray.toList_eq,h]; rfl
theorem zero_other {s:ByteArray} (h:s.data.toList ≠ [48]):(s.toList == [48])=false:=by rw [ByteArray.toList_eq]; simpa using h

set_option maxHeartbeats 400000 in
theorem number_zero (s:ByteArray) (h:s.data.toList=[48]) (w:World) :
    Calls Tryz.prog 309 #[.string s] w fun e w'=>e=.returned (numT s.data.toList)∧Below w.heap.size w w':=by
  have he:=zero_same h
  have HR:Hid _:=numT_some (l:=s.data.toList) (v:=0) (by rw [h]; exact numberOf_zero)
  clear h
  go_enter Tryz.func309,Tryz.ntmps309
  go_wp2
  go_ret2
  exact ⟨by rw [HR.out]; rfl,Below.refl _ _⟩
theorem no_head {l:List UInt8} (h:l ≠ [48]) (hb:∀ c r,body l=c :: r → ¬ (49 ≤ c.toNat∧c.toNat ≤ 57)):numberOf l=none:=by
  cases hn:numberOf l with
  | none=>rfl
  | some v =>
    rcases numberOf_head hn with e | ⟨c,r,e,h1,h2⟩
    · exact absurd e h
    · exact absurd ⟨h1,h2⟩ (hb c r e)
set_option maxHeartbeats 400000 in
theorem number_nobody (s:ByteArray) (h:s.data.toList ≠ [48]) (hb:(bodyB s).size=0) (w:World) :
    Calls Tryz.prog 309 #[.string s] w fun e w'=>e=.returned (numT s.data.toList)∧Below w.heap.size w w':=by
  have he:=zero_other h
  have HR:Hid _:=numT_none (no_head h (fun c r e=>by
    have h1:=list_len (bodyB s)
    rw [bodyB_list,e,hb] at h1
    simp at h1))
  have hz:(bodyB s).toList.isEmpty=true:=by rw [empty_str _ hb,ByteArray.toList_eq]; rfl
  clear h hb
  go_enter Tryz.func309,Tryz.ntmps309
  go_wp2_with fail
  refine (trim_any s _).mono ?_
  rintro e w1 ⟨rfl,rfl⟩
  go_wp2
  go_ret2
  exact ⟨by rw [HR.out]; rfl,Below.refl _ _⟩
theorem body_at (s:ByteArray) (hb:0 < (bodyB s).size):body s.data.toList=(bodyB s)[0] :: tl (body s.data.toList):=by
  have:=head_tl (bodyB s) hb
  rw [bodyB_list] at this
  exact this
set_option maxRecDepth 20000 in
set_option maxHeartbeats 400000 in
theorem number_lo (s:ByteArray) (h:s.data.toList ≠ [48]) (hb:0 < (bodyB s).size) (hc:((bodyB s)[0].toNat:Int) < 49) (w:World) :
    Calls Tryz.prog 309 #[.string s] w fun e w'=>e=.returned (numT s.data.toList)∧Below w.heap.size w w':=by
  have he:=zero_other h
  have HR:Hid _:=numT_none (no_head h (fun c r e=>by rw [body_at s hb] at e; injection e with e1 _; rw [← e1]; omega))
  have hz:=full_str (bodyB s) hb
  have t1:decide (((bodyB s)[0].toNat:Int) < 49)=true:=by simpa using hc
  clear h hc
  go_enter Tryz.func309,Tryz.ntmps309
  go_wp2_with fail
  refine (trim_any s _).mono ?_
  rintro e w1 ⟨rfl,rfl⟩
  go_wp2
  go_ret2
  exact ⟨by rw [HR.out]; rfl,Below.refl _ _⟩
set_option maxRecDepth 20000 in
set_option maxHeartbeats 400000 in
theorem number_hi (s:ByteArray) (h:s.data.toList ≠ [48]) (hb:0 < (bodyB s).size) (hc:57 < ((bodyB s)[0].toNat:Int)) (w:World) :
    Calls Tryz.prog 309 #[.string s] w fun e w'=>e=.returned (numT s.data.toList)∧Below w.heap.size w w':=by
  have he:=zero_other h
  have HR:Hid _:=numT_none (no_head h (fun c r e=>by rw [body_at s hb] at e; injection e with e1 _; rw [← e1]; omega))
  have hz:=full_str (bodyB s) hb
  have t1:decide (((bodyB s)[0].toNat:Int) < 49)=false:=by simp; omega
  have t2:decide ((57:Int) < ((bodyB s)[0].toNat:Int))=true:=by simpa using hc
  clear h hc
  go_enter Tryz.func309,Tryz.ntmps309
  go_wp2_with fail
  refine (trim_any s _).mono ?_
  rintro e w1 ⟨rfl,rfl⟩
  go_wp2
  go_ret2
  exact ⟨by rw [HR.out]; rfl,Below.refl _ _⟩
theorem parse_ok (s:ByteArray) (hs:s.size ≤ 281474976710656) (v:Int) (h:Lib.parseIntB 64 s.data.toList=.ok v) (w:World) :
    Calls Tryz.prog 360 #[.string s,.int .i64 10,.int .i64 64] w fun e w'=>e=.returned (.tuple #[.int .i64 v,.nilIface])∧Below w.heap.size w w':=by
  refine (Tryz.strconv_ParseInt_10_at64_ok s (by omega) v h w).mono ?_
  rintro e w' ⟨rfl,rfl | ⟨t,rfl⟩⟩
  · exact ⟨rfl,Below.refl _ _⟩
  · exact ⟨rfl,Lib.bytesWorld_below _ _ _⟩
theorem parse_no (s:ByteArray) (hs:s.size ≤ 281474976710656) (h:∀ v,Lib.parseIntB 64 s.data.toList ≠ .ok v) (w:World) (hL:Laid w) :
    Calls Tryz.prog 360 #[.string s,.int .i64 10,.int .i64 64] w fun e w'=>∃ n t p,e=.returned (.tuple #[.int .i64 n,.iface t p])∧Below w.heap.size w w':=by
  rcases hp:Lib.parseIntB 64 s.data.toList with v | _ | _
  · exact absurd hp (h v)
  · obtain ⟨tp,p,hv⟩:=hL.syn
    refine (Any.strconv_ParseInt_10_at64_syntax_var Tryz.laysC174 s hs hp tp p w hv).mono ?_
    rintro e w' ⟨N,rfl,_,_,hb⟩
    exact ⟨_,_,_,rfl,hb⟩
  · obtain ⟨tp,p,hv⟩:=hL.rng
    refine (Any.strconv_ParseInt_10_at64_range_var Tryz.laysC174 s hs hp tp p w hv).mono ?_
    rintro e w' ⟨N,rfl,_,_,hb⟩
    exact ⟨_,_,_,rfl,hb⟩
set_option maxRecDepth 20000 in
set_option maxHeartbeats 400000 in
theorem number_ok (s:ByteArray) (hs:s.size ≤ 281474976710656) (h:s.data.toList ≠ [48]) (hb:0 < (bodyB s).size) (hc0:49 ≤ ((bodyB s)[0].toNat:Int)) (hc:((bodyB s)[0].toNat:Int) ≤ 57) (v:Int) (hv:Lib.parseIntB 64 s.data.toList=.ok v) (w:World) :
    Calls Tryz.prog 309 #[.string s] w fun e w'=>e=.returned (numT s.data.toList)∧Below w.heap.size w w':=by
  have he:=zero_other h
  have HN:numberOf s.data.toList=some v:=numberOf_parse (body_at s hb) (by omega) (by omega) hv
  have HR:Hid _:=numT_some HN
  have hz:=full_str (bodyB s) hb
  have HP:Hid _:=parse_ok s hs v hv
  obtain ⟨_,hv0,hv1,_⟩:=numberOf_some HN
  have t1:decide (((bodyB s)[0].toNat:Int) < 49)=false:=by simp; omega
  have t2:decide ((57:Int) < ((bodyB s)[0].toNat:Int))=false:=by simp; omega
  clear h hc hc0 HN hv hs
  go_enter Tryz.func309,Tryz.ntmps309
  go_wp2_with fail
  refine (trim_any s _).mono ?_
  rintro e w1 ⟨rfl,rfl⟩
  go_wp2_with fail
  refine (HP.out _).mono ?_
  rintro e w2 ⟨rfl,hb2⟩
  go_wp2
  go_ret2
  exact ⟨by rw [HR.out]; rfl,hb2⟩
set_option maxRecDepth 20000 in
set_option maxHeartbeats 400000 in
theorem number_no (s:ByteArray) (hs:s.size ≤ 281474976710656) (h:s.data.toList ≠ [48]) (hb:0 < (bodyB s).size) (hc0:49 ≤ ((bodyB s)[0].toNat:Int)) (hc:((bodyB s)[0].toNat:Int) ≤ 57) (hv:∀ v,Lib.parseIntB 64 s.data.toList ≠ .ok v) (w:World) (hL:Laid w) :
    Calls Tryz.prog 309 #[.string s] w fun e w'=>e=.returned (numT s.data.toList)∧Below w.heap.size w w':=by
  have he:=zero_other h
  have HR:Hid _:=numT_none (numberOf_bad hv)
  have hz:=full_str (bodyB s) hb
  have HP:=parse_no s hs hv
  have HP':Hid _:=HP
  have HL:Hid (Laid w):=hL
  clear HP
  have t1:decide (((bodyB s)[0].toNat:Int) < 49)=false:=by simp; omega
  have t2:decide ((57:Int) < ((bodyB s)[0].toNat:Int))=false:=by simp; omega
  clear h hc hc0 hv hs hL
  go_enter Tryz.func309,Tryz.ntmps309
  go_wp2_with fail
  refine (trim_any s _).mono ?_
  rintro e w1 ⟨rfl,rfl⟩
  go_wp2_with fail
  refine (HP'.out _ HL.out).mono ?_
  rintro e w2 ⟨n,t,p,rfl,hb2⟩
  go_wp2
  go_ret2
  exact ⟨by rw [HR.out]; rfl,hb2⟩
theorem number_any (s:ByteArray) (hs:s.size ≤ 281474976710656) (w:World) (hL:Laid w) :
    Calls Tryz.prog 309 #[.string s] w fun e w'=>e=.returned (numT s.data.toList)∧Below w.heap.size w w':=by
  by_cases h:s.data.toList=[48]
  · exact number_zero s h w
  by_cases hb:(bodyB s).size=0
  · exact number_nobody s h hb w
  have hb':0 < (bodyB s).size:=by omega
  by_cases c1:((bodyB s)[0].toNat:Int) < 49
  · exact number_lo s h hb' c1 w
  by_cases c2:57 < ((bodyB s)[0].toNat:Int)
  · exact number_hi s h hb' c2 w
  by_cases hv:∃ v,Lib.parseIntB 64 s.data.toList=.ok v
  · obtain ⟨v,hv⟩:=hv
    exact number_ok s hs h hb' (by omega) (by omega) v hv w
  · exact number_no s hs h hb' (by omega) (by omega) (fun v e=>hv ⟨v,e⟩) w hL
end Go.Proofs.YtiefeeoellagnaaGreatDoor.S6
namespace Go.Proofs.YtiefeeoellagnaaGreatDoor.S6
open Go.RowKit Vi
set_option linter.unusedVariables false
def itoaB (n:Int):ByteArray:=⟨(Lib.itoa n).toArray⟩
theorem itoa_any (n:Int) (h0:-9223372036854775808 ≤ n) (h1:n ≤ 9223372036854775807) (w:World) (hL:Laid w) :
    Calls Tryz.prog 368 #[.int .i64 n] w fun e w'=>e=.returned (.string (itoaB n))∧Below w.heap.size w w':=by
  refine (Tryz.strconv_Itoa n h0 h1 w hL.tab).mono ?_
  rintro e w' ⟨rfl,k,os,rfl⟩
  exact ⟨rfl,below_grow w k os⟩
set_option maxHeartbeats 400000 in
theorem digits_any (n:Int) (h0:-9223372036854775808 ≤ n) (h1:n ≤ 9223372036854775807) (w:World) (hL:Laid w) :
    Calls Tryz.prog 323 #[.int .i64 n] w fun e w'=>e=.returned (.string (itoaB n))∧Below w.heap.size w w':=by
  have HL:Hid (Laid w):=hL
  clear hL
  go_enter Tryz.func323,Tryz.ntmps323
  go_wp2_with fail
  refine (itoa_any n h0 h1 _ HL.out).mono ?_
  rintro e w1 ⟨rfl,hb1⟩
  go_wp2
  go_ret
  exact ⟨rfl,hb1⟩

end Go.Proofs.YtiefeeoellagnaaGreatDoor.S6
