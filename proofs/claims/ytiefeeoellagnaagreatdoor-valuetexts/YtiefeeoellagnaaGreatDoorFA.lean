import Derived.Test.YtiefeeoellagnaaGreatDoorProg
import Derived.WalkKit
import Derived.WalkSpells
import Derived.WalkLawsBesides
import Derived.Handy
import Derived.Laws.BytesArg
import Derived.Laws.IdiomStrings
import Derived.Lib.AppendStr
import Derived.Deep.QuietTactic
import Derived.BigQuiet
import Derived.Lib.LazyBuf
import Derived.Deep.RegionWith
namespace Go.Proofs.YtiefeeoellagnaaGreatDoor.S5
open Go.RowKit
set_option linter.unusedVariables false

theorem below_dn {B:Nat} {a w:World} (h:Below B a w) (n:Nat):Below B a (w.drewN n):=h.trans ⟨rfl,rfl,rfl,Nat.le_refl _,fun _ _=>rfl⟩
theorem at_list (s:ByteArray) (k:Nat) (h:k < s.size):s.data.toList[k]?=some s[k]:=by
  rw [List.getElem?_eq_getElem (by simpa using h)]; rfl
theorem list_len (s:ByteArray):s.data.toList.length=s.size:=by show _=s.data.size; simp
theorem drop_more (l:List UInt8) (i:Nat) (b:UInt8) (h:l[i]?=some b):l.drop i=b :: l.drop (i + 1):=by
  obtain ⟨hi,e⟩:=List.getElem?_eq_some_iff.1 h
  rw [List.drop_eq_getElem_cons hi,e]
theorem drop_at (s:ByteArray) (k:Nat) (h:k < s.size):s.data.toList.drop k=s[k] :: s.data.toList.drop (k + 1):=drop_more _ _ _ (at_list s k h)
theorem ext_any (s:ByteArray) (i j:Nat):(s.extract i j).data.toList=(s.data.toList.drop i).take (j - i):=by
  rw [ByteArray.data_extract]
  simp [Array.toList_extract,List.extract_eq_take_drop]
theorem ext_size (s:ByteArray) (i j:Nat) (h:j ≤ s.size):(s.extract i j).size=j - i:=by
  rw [ByteArray.size_extract]; omega
theorem ret_int {k:IntKind} {a b:Int} (h:a=b):Ending.returned (.int k a)=.returned (.int k b):=by rw [h]
def strB (l:List UInt8):ByteArray:=⟨l.toArray⟩
theorem strB_list (l:List UInt8):(strB l).data.toList=l:=by unfold strB; simp
theorem strB_size (l:List UInt8):(strB l).size=l.length:=by rw [← list_len,strB_list]
theorem strB_of (s:ByteArray):strB s.data.toList=s:=rfl
def bcells (l:List UInt8):List Value:=l.map fun b=>Value.int .u8 (b.toNat:Int)
theorem info5:(Tryz.prog.info? 5).map (fun i=>(i.zero,i.size,i.bytes))=some (some (.int .u8 0),1,1):=by kernel_rfl
theorem row_lt {w:World} {b:Nat} {o:Obj} (h:w.heap[b]?=some o):b < w.heap.size:=by
  rcases Nat.lt_or_ge b w.heap.size with h' | h'
  · exact h'
  · rw [Array.getElem?_eq_none h'] at h; cases h
theorem own_keep {w w':World} {base e size:Nat} {v:Value} {n:Nat} {xs:List Value} (h:w.ownsRow base e size v n xs) (hk:∀ k,base ≤ k → k < w.heap.size → w'.heap[k]?=w.heap[k]?):w'.ownsRow base e size v n xs:=by
  refine ⟨h.1,?_⟩
  rcases h.2 with h1 | ⟨g,cap,cur,hv,hb,hg,r⟩
  · exact Or.inl h1
  · exact Or.inr ⟨g,cap,cur,hv,hb,by rw [hk g hb (row_lt hg)]; exact hg,r⟩
theorem own_form {w:World} {base e size:Nat} {v:Value} {n:Nat} {xs:List Value} (h:w.ownsRow base e size v n xs):∃ p c,v=.slice p n c:=by
  rcases h.2 with ⟨e,hn⟩ | ⟨gg,cap',cur,e,_⟩
  · exact ⟨none,0,by rw [e,hn]⟩
  · exact ⟨_,_,e⟩
end Go.Proofs.YtiefeeoellagnaaGreatDoor.S5
set_option linter.unusedVariables false
namespace Go.Proofs.YtiefeeoellagnaaGreatDoor.S5.IM
def leN:List UInt8 → Nat
  | []=>0
  | b :: t=>b.toNat + 256 * leN t
theorem leN_lt:∀ l:List UInt8,leN l < 256 ^ l.length
  | []=>by simp [leN]
  | b :: t=>by
    have h1:=leN_lt t; have h2:=b.toNat_lt
    simp only [leN,List.length_cons,Nat.pow_succ]
    omega
theorem leN_app:∀ a b:List UInt8,leN (a ++ b)=leN a + 256 ^ a.length * leN b
  | [],b=>by simp [leN]
  | x :: t,b=>by
    have h:=leN_app t b
    simp only [List.cons_append,leN,h,List.length_cons,Nat.pow_succ]
    rw [Nat.mul_add,Nat.mul_comm (256 ^ t.length) 256,Nat.mul_assoc]
    omega
theorem leN_inj:∀ a b:List UInt8,a.length=b.length → leN a=leN b → a=b
  | [],[],_,_=>rfl
  | x :: s,y :: t,hl,h=>by
    have hx:=x.toNat_lt; have hy:=y.toNat_lt
    simp only [leN] at h
    have h1:x.toNat=y.toNat:=by omega
    have h2:leN s=leN t:=by omega
    rw [leN_inj s t (by simpa using hl) h2,UInt8.toNat_inj.1 h1]
def leB:Nat → Int → List UInt8
  | 0,_=>[]
  | w + 1,n=>UInt8.ofNat (n % 256).toNat :: leB w (n / 256)
theorem leB_len:∀ w n,(leB w n).length=w
  | 0,_=>rfl
  | w + 1,n=>by simp [leB,leB_len w]
theorem ofNat_toNat (k:Nat) (h:k < 256):(UInt8.ofNat k).toNat=k:=by
  rw [UInt8.toNat_ofNat']; omega
theorem emod_mul2 (n a b:Int) (ha:0 < a) (hb:0 < b):n % (a * b)=n % a + a * ((n / a) % b):=by
  have h1:=Int.emod_add_mul_ediv n a
  have h2:=Int.emod_add_mul_ediv (n / a) b
  have h3:=Int.emod_nonneg n (Int.ne_of_gt ha); have h4:=Int.emod_lt_of_pos n ha
  have h5:=Int.emod_nonneg (n / a) (Int.ne_of_gt hb); have h6:=Int.emod_lt_of_pos (n / a) hb
  have e:n=(n % a + a * ((n / a) % b)) + (a * b) * (n / a / b):=by
    rw [Int.mul_assoc,Int.add_assoc,← Int.mul_add,h2,h1]
  have hlt:n % a + a * ((n / a) % b) < a * b:=by
    have:a * ((n / a) % b) ≤ a * (b - 1):=Int.mul_le_mul_of_nonneg_left (by omega) (by omega)
    rw [Int.mul_sub,Int.mul_one] at this
    omega
  have hnn:0 ≤ n % a + a * ((n / a) % b):=Int.add_nonneg h3 (Int.mul_nonneg (by omega) h5)
  conv=>lhs; rw [e,Int.add_mul_emod_self_left]
  exact Int.emod_eq_of_lt hnn hlt
theorem leN_leB:∀ w n,(leN (leB w n):Int)=n % (256 ^ w:Nat)
  | 0,n=>by simp [leB,leN]
  | w + 1,n=>by
    have h:=leN_leB w (n / 256)
    have h0:(n % 256).toNat < 256:=by omega
    simp only [leB,leN,ofNat_toNat _ h0]
    generalize leN (leB w (n / 256))=a at h ⊢
    rw [Nat.pow_succ]
    generalize hM:256 ^ w=M at h ⊢
    have hp:0 < M:=by rw [← hM]; exact Nat.pow_pos (by omega)
    have e:n % ((M * 256:Nat):Int)=n % 256 + 256 * ((n / 256) % (M:Int)):=by
      rw [show ((M * 256:Nat):Int)=256 * (M:Int) by rw [Int.natCast_mul]; exact Int.mul_comm _ _]
      exact emod_mul2 n 256 M (by omega) (by omega)
    rw [e]
    omega
def sg (w u:Nat):Int:=if 2 * u < 256 ^ w then (u:Int) else (u:Int) - (256 ^ w:Nat)
def fits (w:Nat) (n:Int):Prop:=-((256 ^ w:Nat):Int) ≤ 2 * n∧2 * n < ((256 ^ w:Nat):Int)
theorem sg_le (w:Nat) (n:Int) (h:fits w n):sg w (leN (leB w n))=n:=by
  have h1:=leN_leB w n
  unfold sg; unfold fits at h
  generalize 256 ^ w=M at *
  generalize leN (leB w n)=a at *
  have h2:(a:Int) < M:=by rw [h1]; exact Int.emod_lt_of_pos _ (by omega)
  by_cases hn:0 ≤ n
  · have:n % (M:Int)=n:=Int.emod_eq_of_lt hn (by omega)
    split <;> omega
  · have:n % (M:Int)=n + M:=by
      have h3:(n + M) % (M:Int)=n + M:=Int.emod_eq_of_lt (by omega) (by omega)
      rw [← h3]; simp
    split <;> omega
theorem leB_nat (w n:Nat) (h:n < 256 ^ w):leN (leB w n)=n:=by
  have:=leN_leB w n
  rw [Int.emod_eq_of_lt (by omega) (by omega)] at this
  omega
def Rise (l:List Int):Prop:=l.Pairwise (· < ·)
def W3 (w:Nat):Prop:=w=2 ∨ w=4 ∨ w=8
def body (w:Nat) (l:List Int):List UInt8:=l.flatMap (leB w)
def txt (w:Nat) (l:List Int):List UInt8:=leB 4 w ++ (leB 4 (l.length:Nat) ++ body w l)
theorem body_len (w:Nat):∀ l,(body w l).length=l.length * w
  | []=>by simp [body]
  | n :: t=>by
    have:=body_len w t
    unfold body at *
    simp only [List.flatMap_cons,List.length_append,leB_len,this,List.length_cons,Nat.succ_mul]
    omega
theorem body_app (w:Nat) (a b:List Int):body w (a ++ b)=body w a ++ body w b:=by unfold body; simp
theorem txt_len (w:Nat) (l:List Int):(txt w l).length=8 + l.length * w:=by
  unfold txt; simp only [List.length_append,leB_len,body_len]; omega
theorem body_drop (w:Nat):∀ (l:List Int) (i:Nat),i ≤ l.length → (body w l).drop (i * w)=body w (l.drop i)
  | l,0,_=>by simp
  | n :: t,i + 1,h=>by
    have h1:=body_drop w t i (by simpa using h)
    have e:body w (n :: t)=leB w n ++ body w t:=by simp [body]
    rw [e,Nat.succ_mul,Nat.add_comm,← List.drop_drop,List.drop_left' (leB_len w n),h1]
    simp
theorem txt_drop8 (w:Nat) (l:List Int):(txt w l).drop 8=body w l:=by
  unfold txt
  rw [← List.append_assoc,List.drop_left' (by simp [leB_len])]
theorem txt_at (w:Nat) (l:List Int) (i:Nat) (h:i < l.length):((txt w l).drop (8 + i * w)).take w=leB w l[i]:=by
  rw [← List.drop_drop,txt_drop8,body_drop w l i (by omega),List.drop_eq_getElem_cons h]
  have e:∀ (a:Int) (t:List Int),body w (a :: t)=leB w a ++ body w t:=fun a t=>by simp [body]
  rw [e,List.take_left' (leB_len w _)]
theorem txt_w (w:Nat) (l:List Int):(txt w l).take 4=leB 4 w:=by
  unfold txt; rw [List.take_left' (leB_len _ _)]
theorem txt_c (w:Nat) (l:List Int):((txt w l).drop 4).take 4=leB 4 (l.length:Nat):=by
  unfold txt; rw [List.drop_left' (leB_len _ _),List.take_left' (leB_len _ _)]
structure IsSet (p:List UInt8) (w:Nat) (l:List Int):Prop where
  txt:p=txt w l
  w3:W3 w
  len:l.length ≤ 1048576
  rise:Rise l
  fit:∀ n ∈ l,fits w n
def wid (p:List UInt8):Nat:=leN (p.take 4)
def cnt (p:List UInt8):Nat:=leN ((p.drop 4).take 4)
def numAt (w:Nat) (p:List UInt8) (i:Nat):Int:=sg w (leN ((p.drop (8 + i * w)).take w))
def nums (w c:Nat) (p:List UInt8):List Int:=(List.range c).map (numAt w p)
structure OkP (p:List UInt8):Prop where
  len8:8 ≤ p.length
  w3:W3 (wid p)
  many:cnt p ≤ 1048576
  len:p.length=8 + cnt p * wid p
  rise:∀ i,i + 1 < cnt p → numAt (wid p) p i < numAt (wid p) p (i + 1)
theorem IsSet.wid_eq {p w l} (h:IsSet p w l):wid p=w:=by
  have h3:W3 w:=h.w3
  unfold wid; rw [h.txt,txt_w,leB_nat]
  rcases h3 with rfl | rfl | rfl <;> decide
theorem IsSet.cnt_eq {p w l} (h:IsSet p w l):cnt p=l.length:=by
  unfold cnt; rw [h.txt,txt_c,leB_nat]
  exact Nat.lt_of_le_of_lt h.len (by decide)
theorem IsSet.size {p w l} (h:IsSet p w l):p.length=8 + l.length * w:=by rw [h.txt,txt_len]
theorem IsSet.at {p w l} (h:IsSet p w l) (i:Nat) (hi:i < l.length):numAt w p i=l[i]:=by
  unfold numAt
  rw [h.txt,txt_at w l i hi,sg_le w _ (h.fit _ (List.getElem_mem hi))]
theorem Rise.lt {l:List Int} (h:Rise l) (i j:Nat) (hi:i < j) (hj:j < l.length):l[i] < l[j]:=List.pairwise_iff_getElem.1 h i j (by omega) hj hi
theorem IsSet.ok {p w l} (h:IsSet p w l):OkP p:=by
  have e1:=h.wid_eq; have e2:=h.cnt_eq; have e3:=h.size
  refine ⟨by omega,by rw [e1]; exact h.w3,by rw [e2]; exact h.len,by rw [e1,e2]; exact e3,?_⟩
  intro i hi
  rw [e2] at hi
  rw [e1,h.at i (by omega),h.at (i + 1) hi]
  exact h.rise.lt i (i + 1) (by omega) hi
def pos (l:List Int) (n:Int):Nat:=l.countP fun y=>decide (y < n)
theorem pos_eq:∀ (l:List Int) (n:Int) (i:Nat),i ≤ l.length → (∀ j,(h:j < l.length) → j < i → l[j] < n) → (∀ j,(h:j < l.length) → i ≤ j → n ≤ l[j]) → pos l n=i
  | [],n,i,h,_,_=>by simp at h; subst h; rfl
  | a :: t,n,0,_,_,h2=>by
    unfold pos
    rw [List.countP_eq_zero]
    intro y hy
    obtain ⟨j,hj,rfl⟩:=List.getElem_of_mem hy
    have:=h2 j hj (by omega)
    simp; omega
  | a :: t,n,i + 1,h,h1,h2=>by
    have ih:=pos_eq t n i (by simpa using h) (fun j hj hji=>by have:=h1 (j + 1) (by simpa using hj) (by omega); simpa using this) (fun j hj hji=>by have:=h2 (j + 1) (by simpa using hj) (by omega); simpa using this)
    have h0:=h1 0 (by simp) (by omega)
    unfold pos at *
    rw [List.countP_cons_of_pos (by simpa using h0),ih]
theorem pos_le (l:List Int) (n:Int):pos l n ≤ l.length:=List.countP_le_length
theorem pos_lt {l:List Int} (hr:Rise l) (n:Int):(∀ j,(h:j < l.length) → j < pos l n → l[j] < n)∧(∀ j,(h:j < l.length) → pos l n ≤ j → n ≤ l[j]):=by
  have hex:∃ i,i ≤ l.length∧(∀ j,(h:j < l.length) → j < i → l[j] < n)∧(∀ j,(h:j < l.length) → i ≤ j → n ≤ l[j]):=by
    induction l with
    | nil=>exact ⟨0,by simp,by simp,by simp⟩
    | cons a t ih =>
      have hr2:Rise t:=(List.pairwise_cons.1 hr).2
      obtain ⟨i,hi,h1,h2⟩:=ih hr2
      by_cases ha:a < n
      · refine ⟨i + 1,by simpa using hi,?_,?_⟩
        · intro j hj hji
          cases j with
          | zero=>simpa using ha
          | succ j=>simpa using h1 j (by simpa using hj) (by omega)
        · intro j hj hji
          cases j with
          | zero=>omega
          | succ j=>simpa using h2 j (by simpa using hj) (by omega)
      · refine ⟨0,by omega,by intro j _ h; omega,?_⟩
        intro j hj _
        have h0:(a :: t)[0] ≤ (a :: t)[j]:=by
          rcases Nat.eq_zero_or_pos j with rfl | hp
          · exact Int.le_refl _
          · exact Int.le_of_lt (hr.lt 0 j hp hj)
        have:(a :: t)[0]=a:=rfl
        omega
  obtain ⟨i,hi,h1,h2⟩:=hex
  have e:=pos_eq l n i hi h1 h2
  rw [e]
  exact ⟨h1,h2⟩
theorem pos_mem {l:List Int} (hr:Rise l) (n:Int):n ∈ l ↔ ∃ h:pos l n < l.length,l[pos l n]=n:=by
  obtain ⟨h1,h2⟩:=pos_lt hr n
  constructor
  · intro hm
    obtain ⟨j,hj,rfl⟩:=List.getElem_of_mem hm
    have hj1:¬ j < pos l l[j]:=fun h=>by have:=h1 j hj h; omega
    have hj2:¬ pos l l[j] < j:=fun h=>by
      have hp:pos l l[j] < l.length:=by omega
      have a:=h2 (pos l l[j]) hp (Nat.le_refl _)
      have b:=hr.lt _ j h hj
      omega
    have:pos l l[j]=j:=by omega
    exact ⟨by omega,by simp [this]⟩
  · rintro ⟨h,e⟩
    rw [← e]; exact List.getElem_mem h
def needs (n:Int):Nat:=if -32768 ≤ n∧n ≤ 32767 then 2 else if -2147483648 ≤ n∧n ≤ 2147483647 then 4 else 8
def I64 (n:Int):Prop:=-9223372036854775808 ≤ n∧n ≤ 9223372036854775807
def ins (l:List Int) (n:Int):List Int:=l.take (pos l n) ++ n :: l.drop (pos l n)
def del (l:List Int) (n:Int):List Int:=l.take (pos l n) ++ l.drop (pos l n + 1)
end Go.Proofs.YtiefeeoellagnaaGreatDoor.S5.IM
namespace Go.Proofs.YtiefeeoellagnaaGreatDoor.S5
open Go.RowKit IM
set_option linter.unusedVariables false
end Go.Proofs.YtiefeeoellagnaaGreatDoor.S5
namespace Go.Proofs.YtiefeeoellagnaaGreatDoor.S5
open Go.RowKit IM
set_option linter.unusedVariables false
theorem byte_cell (y:Int):((UInt8.ofNat (y % 256).toNat).toNat:Int)=y % 256:=by rw [ofNat_toNat _ (by omega)]; omega
theorem word_cells (x:Int):bcells (leB 8 x)=[.int .u8 (x % 256),.int .u8 (x / 256 % 256),.int .u8 (x / 65536 % 256),.int .u8 (x / 16777216 % 256),.int .u8 (x / 4294967296 % 256),.int .u8 (x / 1099511627776 % 256),.int .u8 (x / 281474976710656 % 256),.int .u8 (x / 72057594037927936 % 256)]:=by
  simp only [leB,bcells,List.map_cons,List.map_nil,byte_cell]
  rw [show x / 256 / 256=x / 65536 by omega,show x / 65536 / 256=x / 16777216 by omega,show x / 16777216 / 256=x / 4294967296 by omega,show x / 4294967296 / 256=x / 1099511627776 by omega,show x / 1099511627776 / 256=x / 281474976710656 by omega,show x / 281474976710656 / 256=x / 72057594037927936 by omega]
set_option maxHeartbeats 1000000 in
set_option maxRecDepth 100000 in
theorem wordOf_any (x:Int) (h0:0 ≤ x) (h1:x < 18446744073709551616) (w:World) :
    Calls Tryz.prog 196 #[.int .u64 x] w fun e w'=>e=.returned (.agg (bcells (leB 8 x)).toArray)∧Below w.heap.size w w':=by
  have HC:Hid _:=word_cells x
  go_enter Tryz.func196,Tryz.ntmps196
  go_wp2
  go_rounds 9
  go_wp2
  refine bodyPost_ret (v:=.agg #[.int .u8 (x % 256),.int .u8 (x / 256 % 256),.int .u8 (x / 65536 % 256),.int .u8 (x / 16777216 % 256),.int .u8 (x / 4294967296 % 256),.int .u8 (x / 1099511627776 % 256),.int .u8 (x / 281474976710656 % 256),.int .u8 (x / 72057594037927936)]) (by simp [results,Tryz.results196,go_sem]) rfl ⟨?_,((Below.refl _ w).alloc (Nat.le_refl _) _).alloc (by simp) _⟩
  rw [HC.out,show x / 72057594037927936 % 256=x / 72057594037927936 by omega]
theorem or_step (x:Nat) (b:UInt8) (k:Nat) (KI:Int) (hK:KI=((2 ^ k:Nat):Int)) (hx:x < 2 ^ k) (hk:k ≤ 56):bits .or .u64 (x:Int) (IntKind.u64.wrap (IntKind.u64.wrap (b.toNat:Int) * KI))=((x + b.toNat * 2 ^ k:Nat):Int):=by
  have hb:=b.toNat_lt
  have h56:(2:Nat) ^ k ≤ 2 ^ 56:=Nat.pow_le_pow_right (by omega) hk
  have e56:(2:Nat) ^ 56=72057594037927936:=by decide
  have hm:b.toNat * 2 ^ k ≤ 255 * 2 ^ k:=Nat.mul_le_mul_right _ (by omega)
  have e1:IntKind.u64.wrap (IntKind.u64.wrap (b.toNat:Int) * KI)=((b.toNat * 2 ^ k:Nat):Int):=by
    rw [IntKind.wrap_u64,IntKind.wrap_u64,hK]
    rw [show ((b.toNat:Int) % 18446744073709551616)=(b.toNat:Int) by omega,← Int.natCast_mul]
    omega
  rw [e1,bits_or_u64_nat _ _ (by omega) (by omega)]
  have h2:=Nat.two_pow_add_eq_or_of_lt hx b.toNat
  rw [Nat.or_comm,Nat.mul_comm b.toNat,← h2]
  omega
set_option maxHeartbeats 1000000 in
set_option maxRecDepth 100000 in
theorem number_of (b0 b1 b2 b3 b4 b5 b6 b7:UInt8) (w:World) :
    Calls Tryz.prog 432 #[.agg #[.int .u8 (b0.toNat:Int),.int .u8 (b1.toNat:Int),.int .u8 (b2.toNat:Int),.int .u8 (b3.toNat:Int),.int .u8 (b4.toNat:Int),.int .u8 (b5.toNat:Int),.int .u8 (b6.toNat:Int),.int .u8 (b7.toNat:Int)]] w fun e w'=>e=.returned (.int .u64 (leN [b0,b1,b2,b3,b4,b5,b6,b7]:Nat))∧Below w.heap.size w w':=by
  have c0:=b0.toNat_lt; have c1:=b1.toNat_lt; have c2:=b2.toNat_lt; have c3:=b3.toNat_lt; have c4:=b4.toNat_lt; have c5:=b5.toNat_lt; have c6:=b6.toNat_lt; have c7:=b7.toNat_lt
  have hs:(bits .or .u64 (bits .or .u64 (bits .or .u64 (bits .or .u64 (bits .or .u64 (bits .or .u64 (bits .or .u64 (IntKind.u64.wrap (b0.toNat:Int)) (IntKind.u64.wrap (IntKind.u64.wrap (b1.toNat:Int) * 256))) (IntKind.u64.wrap (IntKind.u64.wrap (b2.toNat:Int) * 65536))) (IntKind.u64.wrap (IntKind.u64.wrap (b3.toNat:Int) * 16777216))) (IntKind.u64.wrap (IntKind.u64.wrap (b4.toNat:Int) * 4294967296))) (IntKind.u64.wrap (IntKind.u64.wrap (b5.toNat:Int) * 1099511627776))) (IntKind.u64.wrap (IntKind.u64.wrap (b6.toNat:Int) * 281474976710656))) (IntKind.u64.wrap (IntKind.u64.wrap (b7.toNat:Int) * 72057594037927936))=(leN [b0,b1,b2,b3,b4,b5,b6,b7]:Nat)):=by
    have e0:IntKind.u64.wrap (b0.toNat:Int)=(b0.toNat:Int):=by rw [IntKind.wrap_u64]; omega
    rw [e0,or_step _ b1 8 256 (by decide) (by omega) (by omega),or_step _ b2 16 65536 (by decide) (by omega) (by omega),or_step _ b3 24 16777216 (by decide) (by omega) (by omega),or_step _ b4 32 4294967296 (by decide) (by omega) (by omega),or_step _ b5 40 1099511627776 (by decide) (by omega) (by omega),or_step _ b6 48 281474976710656 (by decide) (by omega) (by omega),or_step _ b7 56 72057594037927936 (by decide) (by omega) (by omega)]
    have:b0.toNat + b1.toNat * 2 ^ 8 + b2.toNat * 2 ^ 16 + b3.toNat * 2 ^ 24 + b4.toNat * 2 ^ 32 + b5.toNat * 2 ^ 40 + b6.toNat * 2 ^ 48 + b7.toNat * 2 ^ 56=leN [b0,b1,b2,b3,b4,b5,b6,b7]:=by
      simp only [leN]; omega
    rw [this]
  have HS:Hid _:=hs
  clear hs
  clear c0 c1 c2 c3 c4 c5 c6 c7
  go_enter Tryz.func432,Tryz.ntmps432
  go_wp2
  go_ret
  exact ⟨congrArg (fun x=>Ending.returned (.int .u64 x)) HS.out,(Below.refl _ w).alloc (Nat.le_refl _) _⟩
theorem eight (s:ByteArray) (a:Nat) (h:a + 8 ≤ s.size):∃ c0 c1 c2 c3 c4 c5 c6 c7:UInt8,(s.data.toList.drop a).take 8=[c0,c1,c2,c3,c4,c5,c6,c7]:=by
  refine ⟨s[a],s[a + 1],s[a + 2],s[a + 3],s[a + 4],s[a + 5],s[a + 6],s[a + 7],?_⟩
  rw [drop_at s a (by omega),drop_at s (a + 1) (by omega),drop_at s (a + 1 + 1) (by omega),drop_at s (a + 1 + 1 + 1) (by omega),drop_at s (a + 1 + 1 + 1 + 1) (by omega),drop_at s (a + 1 + 1 + 1 + 1 + 1) (by omega),drop_at s (a + 1 + 1 + 1 + 1 + 1 + 1) (by omega),drop_at s (a + 1 + 1 + 1 + 1 + 1 + 1 + 1) (by omega)]
  rfl
theorem ext_ext (p:ByteArray) (a:Nat) (h:a + 8 ≤ p.size):((p.extract a p.size).extract 0 8)=strB ((p.data.toList.drop a).take 8):=by
  rw [← strB_of ((p.extract a p.size).extract 0 8),ext_any,ext_any]
  congr 1
  rw [List.drop_zero,List.take_take]
  congr 1
  omega
theorem copy_word (w:World) (c0 c1 c2 c3 c4 c5 c6 c7:UInt8):(Builtin.copy_ #[218,9] 3 #[.slice (some ⟨w.heap.size,0,none⟩) 8 8,.string (strB [c0,c1,c2,c3,c4,c5,c6,c7])]).run Tryz.prog ((w.alloc (.cells #[.int .u8 0,.int .u8 0,.int .u8 0,.int .u8 0,.int .u8 0,.int .u8 0,.int .u8 0,.int .u8 0] 300)).drew)=.ok (goInt 8) ((w.alloc (.cells #[.int .u8 (c0.toNat:Int),.int .u8 (c1.toNat:Int),.int .u8 (c2.toNat:Int),.int .u8 (c3.toNat:Int),.int .u8 (c4.toNat:Int),.int .u8 (c5.toNat:Int),.int .u8 (c6.toNat:Int),.int .u8 (c7.toNat:Int)] 300)).drew):=by
  have h:=Go.run_copy_string (P:=Tryz.prog) ((w.alloc (.cells #[.int .u8 0,.int .u8 0,.int .u8 0,.int .u8 0,.int .u8 0,.int .u8 0,.int .u8 0,.int .u8 0] 300)).drew) 218 9 3 5 w.heap.size 0 8 8 (strB [c0,c1,c2,c3,c4,c5,c6,c7]) Tryz.underlying218 (by intro w; kernel_rfl) (by rw [strB_size]; simp) ?_ ?_
  · rw [strB_list,strB_size] at h
    rw [h]
    have e:∀ (W:World) (q:Addr) (v:Value),W.drew.setCell q v=(W.setCell q v).drew:=fun _ _ _=>rfl
    simp only [World.setCells,List.map_cons,List.map_nil,e]
    simp [go_sem]
  · intro j hj
    rw [strB_size] at hj
    simp at hj
    rw [World.cell?_drew,World.cell?_alloc_at _ _ _ _ (by simp)]
    simp
    omega
  · intro j hj
    rw [strB_size] at hj
    simp at hj
    simp
set_option maxHeartbeats 1000000 in
set_option maxRecDepth 100000 in
theorem readWord_any (p:ByteArray) (a:Nat) (h:a + 8 ≤ p.size) (w:World) (hp:p.size ≤ 9223372036854775807) :
    Calls Tryz.prog 401 #[.string p,.int .i64 a] w fun e w'=>e=.returned (.int .u64 (leN ((p.data.toList.drop a).take 8):Nat))∧Below w.heap.size w w':=by
  have hx:=ext_ext p a h
  have hs1:(p.extract a p.size).size=p.size - a:=ext_size p a p.size (Nat.le_refl _)
  obtain ⟨c0,c1,c2,c3,c4,c5,c6,c7,he⟩:=eight p a h
  rw [he] at hx ⊢
  have hcp:=copy_word w c0 c1 c2 c3 c4 c5 c6 c7
  rw [← hx] at hcp
  clear he hx
  go_enter Tryz.func401,Tryz.ntmps401
  go_wp2
  go_region
  all_goals go_wp2_with fail
  all_goals refine (number_of c0 c1 c2 c3 c4 c5 c6 c7 _).mono ?_
  all_goals rintro e w1 ⟨rfl,hb1⟩
  all_goals go_wp2
  all_goals go_ret
  all_goals exact ⟨rfl,(((Below.refl _ w).alloc (Nat.le_refl _) _).drew).trans (hb1.mono (by simp))⟩
end Go.Proofs.YtiefeeoellagnaaGreatDoor.S5
namespace Go.Proofs.YtiefeeoellagnaaGreatDoor.S5
open Go.RowKit IM
set_option linter.unusedVariables false
def setV (p:ByteArray) (W C:Nat):Value:=.agg #[.string p,.int .i64 (W:Int),.int .i64 (C:Int)]
theorem word_split (l:List UInt8) (W i:Nat) (hW:W ≤ 8) (h:8 + (i + 1) * W ≤ l.length):leN ((l.drop ((i + 1) * W)).take 8)=leN ((l.drop ((i + 1) * W)).take (8 - W)) + 256 ^ (8 - W) * leN ((l.drop (8 + i * W)).take W):=by
  have e:(l.drop ((i + 1) * W)).take 8=(l.drop ((i + 1) * W)).take (8 - W) ++ (l.drop (8 + i * W)).take W:=by
    conv=>lhs; rw [show 8=(8 - W) + W by omega,List.take_add]
    rw [List.drop_drop]
    congr 3
    rw [Nat.succ_mul]; omega
  rw [e,leN_app,List.length_take,List.length_drop]
  rw [show min (8 - W) (l.length - (i + 1) * W)=8 - W by omega]
set_option maxHeartbeats 1000000 in
set_option maxRecDepth 100000 in
theorem begin_2 (p:ByteArray) (C i:Nat) (hi:i ≤ 4294967296) (w:World) :
    Calls Tryz.prog 402 #[.agg #[.string p,.int .i64 2,.int .i64 (C:Int)],.int .i64 i] w fun e w'=>e=.returned (.int .i64 (8 + (i:Int) * 2))∧w'=w.alloc (.cells #[.string p,.int .i64 2,.int .i64 (C:Int)] 507):=by
  go_enter Tryz.func402,Tryz.ntmps402
  go_wp2
  go_ret
  exact ⟨rfl,rfl⟩
set_option maxHeartbeats 1000000 in
set_option maxRecDepth 100000 in
theorem begin_4 (p:ByteArray) (C i:Nat) (hi:i ≤ 4294967296) (w:World) :
    Calls Tryz.prog 402 #[.agg #[.string p,.int .i64 4,.int .i64 (C:Int)],.int .i64 i] w fun e w'=>e=.returned (.int .i64 (8 + (i:Int) * 4))∧w'=w.alloc (.cells #[.string p,.int .i64 4,.int .i64 (C:Int)] 507):=by
  go_enter Tryz.func402,Tryz.ntmps402
  go_wp2
  go_ret
  exact ⟨rfl,rfl⟩
set_option maxHeartbeats 1000000 in
set_option maxRecDepth 100000 in
theorem begin_8 (p:ByteArray) (C i:Nat) (hi:i ≤ 4294967296) (w:World) :
    Calls Tryz.prog 402 #[.agg #[.string p,.int .i64 8,.int .i64 (C:Int)],.int .i64 i] w fun e w'=>e=.returned (.int .i64 (8 + (i:Int) * 8))∧w'=w.alloc (.cells #[.string p,.int .i64 8,.int .i64 (C:Int)] 507):=by
  go_enter Tryz.func402,Tryz.ntmps402
  go_wp2
  go_ret
  exact ⟨rfl,rfl⟩
theorem cell_below {B:Nat} {w w':World} (h:Below B w w') {a:Addr} (ha:a.block < B):w'.cell? a=w.cell? a:=World.cell?_of_block (h.block _ ha)
end Go.Proofs.YtiefeeoellagnaaGreatDoor.S5
