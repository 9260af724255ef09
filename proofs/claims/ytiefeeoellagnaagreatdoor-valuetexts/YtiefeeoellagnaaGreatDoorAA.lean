import Derived.Test.YtiefeeoellagnaaGreatDoorAN
import Derived.RangeFuncOwn
import Derived.Test.YtiefeeoellagnaaGreatDoorShelf
import Derived.Laws.Bits64b
set_option linter.unusedVariables false
namespace Go.Proofs.YtiefeeoellagnaaGreatDoor.S6.LM
open Go.Proofs.Vi
def leN:List UInt8 → Nat
  | []=>0
  | b :: t=>b.toNat + 256 * leN t
theorem leN_lt:∀ l:List UInt8,leN l < 256 ^ l.length
  | []=>by simp [leN]
  | b :: t=>by
    have h1:=leN_lt t; have h2:=b.toNat_lt
    simp only [leN,List.length_cons,Nat.pow_succ]
    omega
theorem leN_app:∀ a b:List UInt8,leN (a ++ b)=leN a + 256 ^ a.length * leN b
  | [],b=>by simp [leN]
  | x :: t,b=>by
    have h:=leN_app t b
    simp only [List.cons_append,leN,h,List.length_cons,Nat.pow_succ]
    rw [Nat.mul_add,Nat.mul_comm (256 ^ t.length) 256,Nat.mul_assoc]
    omega
theorem leN_inj:∀ a b:List UInt8,a.length=b.length → leN a=leN b → a=b
  | [],[],_,_=>rfl
  | x :: s,y :: t,hl,h=>by
    have hx:=x.toNat_lt; have hy:=y.toNat_lt
    simp only [leN] at h
    have h1:x.toNat=y.toNat:=by omega
    have h2:leN s=leN t:=by omega
    rw [leN_inj s t (by simpa using hl) h2,UInt8.toNat_inj.1 h1]
def leB:Nat → Int → List UInt8
  | 0,_=>[]
  | w + 1,n=>UInt8.ofNat (n % 256).toNat :: leB w (n / 256)
theorem leB_len:∀ w n,(leB w n).length=w
  | 0,_=>rfl
  | w + 1,n=>by simp [leB,leB_len w]
theorem ofNat_toNat (k:Nat) (h:k < 256):(UInt8.ofNat k).toNat=k:=by
  rw [UInt8.toNat_ofNat']; omega
theorem emod_mul2 (n a b:Int) (ha:0 < a) (hb:0 < b):n % (a * b)=n % a + a * ((n / a) % b):=by
  have h1:=Int.emod_add_mul_ediv n a
  have h2:=Int.emod_add_mul_ediv (n / a) b
  have h3:=Int.emod_nonneg n (Int.ne_of_gt ha); have h4:=Int.emod_lt_of_pos n ha
  have h5:=Int.emod_nonneg (n / a) (Int.ne_of_gt hb); have h6:=Int.emod_lt_of_pos (n / a) hb
  have e:n=(n % a + a * ((n / a) % b)) + (a * b) * (n / a / b):=by
    rw [Int.mul_assoc,Int.add_assoc,← Int.mul_add,h2,h1]
  have hlt:n % a + a * ((n / a) % b) < a * b:=by
    have:a * ((n / a) % b) ≤ a * (b - 1):=Int.mul_le_mul_of_nonneg_left (by omega) (by omega)
    rw [Int.mul_sub,Int.mul_one] at this
    omega
  have hnn:0 ≤ n % a + a * ((n / a) % b):=Int.add_nonneg h3 (Int.mul_nonneg (by omega) h5)
  conv=>lhs; rw [e,Int.add_mul_emod_self_left]
  exact Int.emod_eq_of_lt hnn hlt
theorem leN_leB:∀ w n,(leN (leB w n):Int)=n % (256 ^ w:Nat)
  | 0,n=>by simp [leB,leN]
  | w + 1,n=>by
    have h:=leN_leB w (n / 256)
    have h0:(n % 256).toNat < 256:=by omega
    simp only [leB,leN,ofNat_toNat _ h0]
    generalize leN (leB w (n / 256))=a at h ⊢
    rw [Nat.pow_succ]
    generalize hM:256 ^ w=M at h ⊢
    have hp:0 < M:=by rw [← hM]; exact Nat.pow_pos (by omega)
    have e:n % ((M * 256:Nat):Int)=n % 256 + 256 * ((n / 256) % (M:Int)):=by
      rw [show ((M * 256:Nat):Int)=256 * (M:Int) by rw [Int.natCast_mul]; exact Int.mul_comm _ _]
      exact emod_mul2 n 256 M (by omega) (by omega)
    rw [e]
    omega
def sg (w u:Nat):Int:=if 2 * u < 256 ^ w then (u:Int) else (u:Int) - (256 ^ w:Nat)
def fits (w:Nat) (n:Int):Prop:=-((256 ^ w:Nat):Int) ≤ 2 * n∧2 * n < ((256 ^ w:Nat):Int)
theorem sg_fits (w u:Nat) (h:u < 256 ^ w):fits w (sg w u):=by
  unfold sg fits
  generalize 256 ^ w=M at *
  split <;> omega
theorem sg_le (w:Nat) (n:Int) (h:fits w n):sg w (leN (leB w n))=n:=by
  have h1:=leN_leB w n
  unfold sg; unfold fits at h
  generalize 256 ^ w=M at *
  generalize leN (leB w n)=a at *
  have h2:(a:Int) < M:=by rw [h1]; exact Int.emod_lt_of_pos _ (by omega)
  by_cases hn:0 ≤ n
  · have:n % (M:Int)=n:=Int.emod_eq_of_lt hn (by omega)
    split <;> omega
  · have:n % (M:Int)=n + M:=by
      have h3:(n + M) % (M:Int)=n + M:=Int.emod_eq_of_lt (by omega) (by omega)
      rw [← h3]; simp
    split <;> omega
theorem le_sg (w:Nat) (l:List UInt8) (h:l.length=w):leB w (sg w (leN l))=l:=by
  have hl:=leN_lt l
  rw [h] at hl
  refine leN_inj _ _ (by rw [leB_len,h]) ?_
  have h1:=leN_leB w (sg w (leN l))
  unfold sg at h1 ⊢
  generalize hM:256 ^ w=M at *
  generalize hA:leN l=a at *
  by_cases hc:2 * a < M
  · simp only [hc,if_true] at h1 ⊢
    rw [Int.emod_eq_of_lt (by omega) (by omega)] at h1
    omega
  · simp only [hc,if_false] at h1 ⊢
    have:((a:Int) - M) % (M:Int)=a:=by
      rw [Int.sub_emod_right]
      exact Int.emod_eq_of_lt (by omega) (by omega)
    omega
theorem leB_nat (w n:Nat) (h:n < 256 ^ w):leN (leB w n)=n:=by
  have:=leN_leB w n
  rw [Int.emod_eq_of_lt (by omega) (by omega)] at this
  omega

structure Item where
  txt:List UInt8
  num:Int
  isN:Bool
def numI (n:Int):Item:=⟨[],n,true⟩
def txtI (s:List UInt8):Item:=⟨s,0,false⟩
def itemOf (v:List UInt8):Item:=match numberOf v with
  | some n=>numI n
  | none=>txtI v
def val (it:Item):List UInt8:=if it.isN then Go.Lib.itoa it.num else it.txt
def I64 (n:Int):Prop:=-9223372036854775808 ≤ n∧n ≤ 9223372036854775807
def Wf (it:Item):Prop:=(it.isN=true∧it.txt=[]∧I64 it.num) ∨ (it.isN=false∧it.num=0∧numberOf it.txt=none∧it.txt.length ≤ 524288)
theorem dig19:∀ (k u:Nat),u < 10 ^ k → Go.Lib.nDigits u ≤ max 1 k
  | 0,u,h=>by rw [Go.Lib.nDigits_small (by omega)]; omega
  | k + 1,u,h=>by
    by_cases hu:u < 10
    · rw [Go.Lib.nDigits_small hu]; omega
    · rw [Go.Lib.nDigits_big hu]
      have:=dig19 k (u / 10) (by rw [Nat.pow_succ] at h; omega)
      rcases k with _ | k
      · simp at h; omega
      · omega
theorem itoa_short (n:Int) (h:I64 n):(Go.Lib.itoa n).length ≤ 20:=by
  obtain ⟨h0,h1⟩:=h
  by_cases hn:n < 0
  · obtain ⟨u,hu⟩:∃ u:Nat,n=-(u:Int):=⟨n.natAbs,by omega⟩
    subst hu
    rw [Go.Lib.itoa_neg u (by omega),List.length_cons,Go.Lib.decDigits_length]
    have:=dig19 19 u (by omega)
    omega
  · obtain ⟨u,hu⟩:∃ u:Nat,n=(u:Int):=⟨n.toNat,by omega⟩
    subst hu
    rw [Go.Lib.itoa_nonneg,Go.Lib.decDigits_length]
    have:=Go.Lib.nDigits_le20 u (by omega)
    omega
theorem itemOf_wf (v:List UInt8) (h:v.length ≤ 524288):Wf (itemOf v):=by
  unfold itemOf
  cases hn:numberOf v with
  | some n=>exact Or.inl ⟨rfl,rfl,(numberOf_some hn).2.1,(numberOf_some hn).2.2.1⟩
  | none=>exact Or.inr ⟨rfl,rfl,hn,h⟩
def nsize (n:Int):Nat:=
  if 0 ≤ n∧n ≤ 127 then 1 else if -4096 ≤ n∧n ≤ 4095 then 2 else if -32768 ≤ n∧n ≤ 32767 then 3
  else if -8388608 ≤ n∧n ≤ 8388607 then 4 else if -2147483648 ≤ n∧n ≤ 2147483647 then 5 else 9
def thead (l:Nat):Nat:=if l ≤ 63 then 1 else if l ≤ 4095 then 2 else 5
def dsize (it:Item):Nat:=if it.isN then nsize it.num else thead it.txt.length + it.txt.length
def ndata (n:Int):List UInt8:=
  if 0 ≤ n∧n ≤ 127 then [UInt8.ofNat n.toNat] else if -4096 ≤ n∧n ≤ 4095 then [UInt8.ofNat (192 + (n % 8192 / 256).toNat),UInt8.ofNat (n % 256).toNat]
  else if -32768 ≤ n∧n ≤ 32767 then 241 :: leB 2 n else if -8388608 ≤ n∧n ≤ 8388607 then 242 :: leB 3 n
  else if -2147483648 ≤ n∧n ≤ 2147483647 then 243 :: leB 4 n else 244 :: leB 8 n
def tdata (t:List UInt8):List UInt8:=
  if t.length ≤ 63 then UInt8.ofNat (128 + t.length) :: t else if t.length ≤ 4095 then UInt8.ofNat (224 + t.length / 256) :: UInt8.ofNat (t.length % 256) :: t
  else 240 :: (leB 4 (t.length:Nat) ++ t)
def data (it:Item):List UInt8:=if it.isN then ndata it.num else tdata it.txt
theorem ndata_len (n:Int):(ndata n).length=nsize n:=by
  unfold ndata nsize; split <;> (try rfl); split <;> (try rfl); split <;> (try simp [leB_len]); split <;> (try simp [leB_len]); split <;> simp [leB_len]
theorem tdata_len (t:List UInt8):(tdata t).length=thead t.length + t.length:=by
  unfold tdata thead; split
  · simp; omega
  · split
    · simp; omega
    · simp [leB_len]; omega
theorem data_len (it:Item):(data it).length=dsize it:=by
  unfold data dsize; split
  · exact ndata_len _
  · exact tdata_len _
theorem dsize_pos (it:Item):1 ≤ dsize it:=by
  unfold dsize nsize thead; (repeat' split) <;> omega
theorem dsize_le (it:Item) (h:Wf it):dsize it ≤ 524293:=by
  rcases h with ⟨h1,h2,h3⟩ | ⟨h1,h2,h3,h4⟩
  · unfold dsize nsize; rw [h1]; simp only [if_true]; (repeat' split) <;> omega
  · unfold dsize thead; rw [h1]; simp only [Bool.false_eq_true,if_false]; (repeat' split) <;> omega

/-! reading. -/
def s13 (u:Nat):Int:=if u % 8192 < 4096 then ((u % 8192:Nat):Int) else ((u % 8192:Nat):Int) - 8192
def txtAt (s:List UInt8) (h L:Nat):Option (Item × Nat):=if h + L ≤ s.length then some (txtI ((s.drop h).take L),h + L) else none
def numAt (s:List UInt8) (k:Nat):Option (Item × Nat):=if 1 + k ≤ s.length then some (numI (sg k (leN ((s.drop 1).take k))),1 + k) else none
def rdF (f:Nat) (s:List UInt8):Option (Item × Nat):=
  if f < 128 then some (numI f,1)
  else if f < 192 then txtAt s 1 (f - 128)
  else if f < 224 then (if 2 ≤ s.length then some (numI (s13 (f * 256 + (s.getD 1 0).toNat)),2) else none)
  else if f < 240 then (if 2 ≤ s.length then txtAt s 2 ((f * 256 + (s.getD 1 0).toNat) % 4096) else none)
  else if f=240 then (if 5 ≤ s.length then txtAt s 5 (leN ((s.drop 1).take 4)) else none)
  else if f=241 then numAt s 2 else if f=242 then numAt s 3 else if f=243 then numAt s 4 else if f=244 then numAt s 8
  else none
def rdItem (s:List UInt8):Option (Item × Nat):=match s with
  | []=>none
  | b :: _=>rdF b.toNat s
theorem rdItem_cons (b:UInt8) (t:List UInt8):rdItem (b :: t)=rdF b.toNat (b :: t):=rfl
theorem txtAt_app (h t r:List UInt8):txtAt (h ++ (t ++ r)) h.length t.length=some (txtI t,h.length + t.length):=by
  unfold txtAt
  rw [if_pos (by simp only [List.length_append]; omega),List.drop_left,List.take_left]
theorem numAt_app (b:UInt8) (k:Nat) (n:Int) (r:List UInt8) (h:fits k n):numAt (b :: (leB k n ++ r)) k=some (numI n,1 + k):=by
  unfold numAt
  rw [if_pos (by simp only [List.length_cons,List.length_append,leB_len]; omega)]
  simp only [List.drop_succ_cons,List.drop_zero]
  rw [List.take_left' (leB_len k n),sg_le k n h]
theorem rd_num (n:Int) (h:I64 n) (r:List UInt8):rdItem (ndata n ++ r)=some (numI n,nsize n):=by
  unfold ndata nsize
  obtain ⟨h0,h1⟩:=h
  split
  · rename_i hc
    show rdF (UInt8.ofNat n.toNat).toNat _=_
    rw [ofNat_toNat _ (by omega)]
    unfold rdF
    rw [if_pos (by omega),show ((n.toNat:Nat):Int)=n by omega]
  split
  · rename_i hc hd
    show rdF (UInt8.ofNat (192 + (n % 8192 / 256).toNat)).toNat _=_
    rw [ofNat_toNat _ (by omega)]
    unfold rdF
    rw [if_neg (by omega),if_neg (by omega),if_pos (by omega),if_pos (by simp)]
    congr 2
    have e:(List.getD ([UInt8.ofNat (192 + (n % 8192 / 256).toNat),UInt8.ofNat (n % 256).toNat] ++ r) 1 0)=UInt8.ofNat (n % 256).toNat:=rfl
    rw [e,ofNat_toNat _ (by omega)]
    unfold s13
    congr 1
    split <;> omega
  split
  · show rdF 241 _=_
    unfold rdF
    rw [if_neg (by omega),if_neg (by omega),if_neg (by omega),if_neg (by omega),if_neg (by omega),if_pos rfl]
    exact numAt_app 241 2 n r (by unfold fits; omega)
  split
  · show rdF 242 _=_
    unfold rdF
    rw [if_neg (by omega),if_neg (by omega),if_neg (by omega),if_neg (by omega),if_neg (by omega),if_neg (by omega),if_pos rfl]
    exact numAt_app 242 3 n r (by unfold fits; omega)
  split
  · show rdF 243 _=_
    unfold rdF
    rw [if_neg (by omega),if_neg (by omega),if_neg (by omega),if_neg (by omega),if_neg (by omega),if_neg (by omega),if_neg (by omega),if_pos rfl]
    exact numAt_app 243 4 n r (by unfold fits; omega)
  · show rdF 244 _=_
    unfold rdF
    rw [if_neg (by omega),if_neg (by omega),if_neg (by omega),if_neg (by omega),if_neg (by omega),if_neg (by omega),if_neg (by omega),if_neg (by omega),if_pos rfl]
    exact numAt_app 244 8 n r (by unfold fits; omega)
theorem rd_txt (t:List UInt8) (h:t.length ≤ 524288) (r:List UInt8):rdItem (tdata t ++ r)=some (txtI t,thead t.length + t.length):=by
  unfold tdata thead
  split
  · rename_i hc
    show rdF (UInt8.ofNat (128 + t.length)).toNat _=_
    rw [ofNat_toNat _ (by omega)]
    unfold rdF
    rw [if_neg (by omega),if_pos (by omega),show 128 + t.length - 128=t.length by omega]
    exact txtAt_app [UInt8.ofNat (128 + t.length)] t r
  split
  · rename_i hc hd
    show rdF (UInt8.ofNat (224 + t.length / 256)).toNat _=_
    rw [ofNat_toNat _ (by omega)]
    unfold rdF
    rw [if_neg (by omega),if_neg (by omega),if_neg (by omega),if_pos (by omega),if_pos (by simp)]
    have e:(List.getD (UInt8.ofNat (224 + t.length / 256) :: UInt8.ofNat (t.length % 256) :: t ++ r) 1 0)=UInt8.ofNat (t.length % 256):=rfl
    rw [e,ofNat_toNat _ (by omega),show ((224 + t.length / 256) * 256 + t.length % 256) % 4096=t.length by omega]
    exact txtAt_app [UInt8.ofNat (224 + t.length / 256),UInt8.ofNat (t.length % 256)] t r
  · rename_i hc hd
    show rdF 240 _=_
    unfold rdF
    rw [if_neg (by omega),if_neg (by omega),if_neg (by omega),if_neg (by omega),if_pos rfl,if_pos (by simp [leB_len])]
    have e:((240 :: (leB 4 (t.length:Nat) ++ t) ++ r:List UInt8).drop 1).take 4=leB 4 (t.length:Nat):=by
      simp only [List.cons_append,List.drop_succ_cons,List.drop_zero,List.append_assoc]
      rw [List.take_left' (leB_len _ _)]
    rw [e,leB_nat _ _ (by omega)]
    have:=txtAt_app (240 :: leB 4 (t.length:Nat)) t r
    simpa [leB_len] using this
theorem rd_data (it:Item) (h:Wf it) (r:List UInt8):rdItem (data it ++ r)=some (it,dsize it):=by
  obtain ⟨t,n,b⟩:=it
  rcases h with ⟨h1,h2,h3⟩ | ⟨h1,h2,h3,h4⟩
  · simp only at h1 h2 h3; subst h1; subst h2
    exact rd_num n h3 r
  · simp only at h1 h2 h3 h4; subst h1; subst h2
    exact rd_txt t h4 r
end Go.Proofs.YtiefeeoellagnaaGreatDoor.S6.LM
set_option linter.unusedVariables false
namespace Go.Proofs.YtiefeeoellagnaaGreatDoor.S6.LM
open Go.Proofs.Vi
/-! what is read,in its one form,is what is written. -/
theorem txtAt_some {s:List UInt8} {h L:Nat} {it:Item} {n:Nat} (e:txtAt s h L=some (it,n)):h + L ≤ s.length∧it=txtI ((s.drop h).take L)∧n=h + L:=by
  unfold txtAt at e; split at e
  · rename_i hc
    have:=Option.some.inj e
    exact ⟨hc,(congrArg Prod.fst this).symm,(congrArg Prod.snd this).symm⟩
  · cases e
theorem numAt_some {s:List UInt8} {k:Nat} {it:Item} {n:Nat} (e:numAt s k=some (it,n)):1 + k ≤ s.length∧it=numI (sg k (leN ((s.drop 1).take k)))∧n=1 + k:=by
  unfold numAt at e; split at e
  · rename_i hc
    have:=Option.some.inj e
    exact ⟨hc,(congrArg Prod.fst this).symm,(congrArg Prod.snd this).symm⟩
  · cases e
theorem take_cons1 (b:UInt8) (t:List UInt8) (k:Nat):(b :: t).take (1 + k)=b :: t.take k:=by rw [Nat.add_comm]; rfl
theorem u8_of (b:UInt8) (k:Nat) (h:b.toNat=k):b=UInt8.ofNat k:=by
  apply UInt8.toNat_inj.1; rw [h,ofNat_toNat]; rw [← h]; exact b.toNat_lt
theorem num_inv (b:UInt8) (t:List UInt8) (k:Nat) (it:Item) (n:Nat) (e:numAt (b :: t) k=some (it,n)) :
    n ≤ (b :: t).length∧it=numI it.num∧fits k it.num∧(b :: t).take n=b :: leB k it.num∧n=1 + k:=by
  obtain ⟨h1,h2,h3⟩:=numAt_some e
  simp only [List.drop_succ_cons,List.drop_zero,List.length_cons] at h1 h2
  have hl:(t.take k).length=k:=by rw [List.length_take]; omega
  have hn:it.num=sg k (leN (t.take k)):=by rw [h2]; rfl
  refine ⟨by rw [h3,List.length_cons]; omega,by rw [hn]; exact h2,?_,?_,h3⟩
  · rw [hn]; exact sg_fits _ _ (by have:=leN_lt (t.take k); rwa [hl] at this)
  · rw [h3,take_cons1,hn,le_sg k _ hl]
theorem one_form (s:List UInt8) (it:Item) (n:Nat) (e:rdItem s=some (it,n)) (hs:dsize it=n) (hl:it.txt.length ≤ 524288) (hn:numberOf it.txt=none) :
    n ≤ s.length∧Wf it∧s.take n=data it:=by
  cases s with
  | nil=>cases e
  | cons b t =>
    have hb:=b.toNat_lt
    rw [rdItem_cons] at e
    unfold rdF at e
    split at e
    · rename_i h1
      have e':=Option.some.inj e
      have e1:it=numI b.toNat:=(congrArg Prod.fst e').symm
      have e2:n=1:=(congrArg Prod.snd e').symm
      subst e1; subst e2
      refine ⟨by simp,Or.inl ⟨rfl,rfl,?_⟩,?_⟩
      · unfold I64 numI; simp only; omega
      · show [b]=ndata (b.toNat:Int)
        unfold ndata
        rw [if_pos ⟨by omega,by omega⟩,Int.toNat_natCast,← u8_of b _ rfl]
    split at e
    · rename_i h1 h2
      obtain ⟨g1,g2,g3⟩:=txtAt_some e
      simp only [List.drop_succ_cons,List.drop_zero,List.length_cons] at g1 g2
      have hL:(t.take (b.toNat - 128)).length=b.toNat - 128:=by rw [List.length_take]; omega
      subst g2
      refine ⟨by rw [g3,List.length_cons]; omega,Or.inr ⟨rfl,rfl,hn,hl⟩,?_⟩
      rw [g3,take_cons1]
      generalize t.take (b.toNat - 128)=q at *
      rw [show data (txtI q)=tdata q from rfl]
      unfold tdata
      rw [if_pos (by omega),hL,← u8_of b _ (by omega)]
    split at e
    · split at e
      · rename_i h1 h2 h3 h4
        have e':=Option.some.inj e
        have e1:=(congrArg Prod.fst e').symm
        have e2:n=2:=(congrArg Prod.snd e').symm
        simp only at e1
        subst e1; subst e2
        cases t with
        | nil=>simp at h4
        | cons c t =>
          have hc:=c.toNat_lt
          simp only [List.getD_cons_succ,List.getD_cons_zero] at hs ⊢
          have hs':nsize (s13 (b.toNat * 256 + c.toNat))=2:=hs
          have hr:-4096 ≤ s13 (b.toNat * 256 + c.toNat)∧s13 (b.toNat * 256 + c.toNat) ≤ 4095:=by unfold s13; split <;> omega
          refine ⟨by simp,Or.inl ⟨rfl,rfl,?_⟩,?_⟩
          · unfold I64 numI; simp only; omega
          · show [b,c]=ndata (s13 (b.toNat * 256 + c.toNat))
            have h0:¬ (0 ≤ s13 (b.toNat * 256 + c.toNat)∧s13 (b.toNat * 256 + c.toNat) ≤ 127):=by
              intro h; unfold nsize at hs'; rw [if_pos h] at hs'; omega
            unfold ndata
            rw [if_neg h0,if_pos hr]
            have k1:(s13 (b.toNat * 256 + c.toNat) % 8192 / 256).toNat=b.toNat - 192:=by unfold s13; split <;> omega
            have k2:(s13 (b.toNat * 256 + c.toNat) % 256).toNat=c.toNat:=by unfold s13; split <;> omega
            rw [k1,k2,← u8_of b _ (by omega),← u8_of c _ rfl]
      · cases e
    split at e
    · split at e
      · rename_i h1 h2 h3 h4 h5
        cases t with
        | nil=>simp at h5
        | cons c t =>
          have hc:=c.toNat_lt
          simp only [List.getD_cons_succ,List.getD_cons_zero] at e
          obtain ⟨g1,g2,g3⟩:=txtAt_some e
          generalize hL:(b.toNat * 256 + c.toNat) % 4096=L at *
          simp only [List.drop_succ_cons,List.drop_zero,List.length_cons] at g1 g2
          have hk:(t.take L).length=L:=by rw [List.length_take]; omega
          subst g2
          have hs':thead (t.take L).length + (t.take L).length=n:=hs
          rw [hk] at hs'
          have hL2:¬ L ≤ 63:=by intro h; unfold thead at hs'; rw [if_pos h] at hs'; omega
          refine ⟨by rw [g3,List.length_cons,List.length_cons]; omega,Or.inr ⟨rfl,rfl,hn,hl⟩,?_⟩
          rw [g3,show 2 + L=L + 1 + 1 by omega]
          simp only [List.take_succ_cons]
          generalize t.take L=q at *
          rw [show data (txtI q)=tdata q from rfl]
          unfold tdata
          rw [if_neg (by omega),if_pos (by omega),hk,← u8_of b _ (by omega),← u8_of c _ (by omega)]
      · cases e
    split at e
    · split at e
      · rename_i h1 h2 h3 h4 h5 h6
        simp only [List.drop_succ_cons,List.drop_zero,List.length_cons] at e h6
        have h4l:(t.take 4).length=4:=by rw [List.length_take]; omega
        have hlt:=leN_lt (t.take 4)
        rw [h4l] at hlt
        obtain ⟨g1,g2,g3⟩:=txtAt_some e
        have hq:leB 4 ((leN (t.take 4):Nat):Int)=t.take 4:=by
          refine leN_inj _ _ (by rw [leB_len,h4l]) ?_
          rw [leB_nat _ _ hlt]
        generalize hL:leN (t.take 4)=L at *
        simp only [List.drop_succ_cons,List.length_cons] at g1 g2
        have hk:((t.drop 4).take L).length=L:=by rw [List.length_take,List.length_drop]; omega
        subst g2
        have hs':thead ((t.drop 4).take L).length + ((t.drop 4).take L).length=n:=hs
        rw [hk] at hs'
        have hL2:¬ L ≤ 63:=by intro h; unfold thead at hs'; rw [if_pos h] at hs'; omega
        have hL3:¬ L ≤ 4095:=by intro h; unfold thead at hs'; rw [if_neg hL2,if_pos h] at hs'; omega
        refine ⟨by rw [g3,List.length_cons]; omega,Or.inr ⟨rfl,rfl,hn,hl⟩,?_⟩
        rw [g3,show 5 + L=1 + (4 + L) by omega,take_cons1,List.take_add]
        rw [show data (txtI ((t.drop 4).take L))=tdata ((t.drop 4).take L) from rfl]
        unfold tdata
        rw [if_neg (by omega),if_neg (by omega),hk,hq,u8_of b 240 h5]
        rfl
      · cases e
    have fin:∀ (k:Nat) (hd:UInt8),b=hd → numAt (b :: t) k=some (it,n) → (∀ m:Int,fits k m → I64 m) → (∀ m:Int,fits k m → nsize m=1 + k → ndata m=hd :: leB k m) →
        n ≤ (b :: t).length∧Wf it∧(b :: t).take n=data it:=by
      intro k hd hbd he h64 hdat
      obtain ⟨g1,g2,g3,g4,g5⟩:=num_inv b t k it n he
      refine ⟨g1,Or.inl ⟨by rw [g2]; rfl,by rw [g2]; rfl,h64 _ g3⟩,?_⟩
      rw [g4]
      have hs':nsize it.num=1 + k:=by rw [g2] at hs; rw [← g5]; exact hs
      rw [show data it=ndata it.num by rw [g2]; rfl,hdat _ g3 hs',hbd]
    split at e
    · rename_i hf
      refine fin 2 241 (u8_of b 241 hf) e (fun m hm=>by unfold fits at hm; unfold I64; omega) (fun m hm hz=>?_)
      unfold nsize at hz; unfold fits at hm
      have c1:¬ (0 ≤ m∧m ≤ 127):=fun h=>by rw [if_pos h] at hz; omega
      have c2:¬ (-4096 ≤ m∧m ≤ 4095):=fun h=>by rw [if_neg c1,if_pos h] at hz; omega
      unfold ndata; rw [if_neg c1,if_neg c2,if_pos (by omega)]
    split at e
    · rename_i hf
      refine fin 3 242 (u8_of b 242 hf) e (fun m hm=>by unfold fits at hm; unfold I64; omega) (fun m hm hz=>?_)
      unfold nsize at hz; unfold fits at hm
      have c1:¬ (0 ≤ m∧m ≤ 127):=fun h=>by rw [if_pos h] at hz; omega
      have c2:¬ (-4096 ≤ m∧m ≤ 4095):=fun h=>by rw [if_neg c1,if_pos h] at hz; omega
      have c3:¬ (-32768 ≤ m∧m ≤ 32767):=fun h=>by rw [if_neg c1,if_neg c2,if_pos h] at hz; omega
      unfold ndata; rw [if_neg c1,if_neg c2,if_neg c3,if_pos (by omega)]
    split at e
    · rename_i hf
      refine fin 4 243 (u8_of b 243 hf) e (fun m hm=>by unfold fits at hm; unfold I64; omega) (fun m hm hz=>?_)
      unfold nsize at hz; unfold fits at hm
      have c1:¬ (0 ≤ m∧m ≤ 127):=fun h=>by rw [if_pos h] at hz; omega
      have c2:¬ (-4096 ≤ m∧m ≤ 4095):=fun h=>by rw [if_neg c1,if_pos h] at hz; omega
      have c3:¬ (-32768 ≤ m∧m ≤ 32767):=fun h=>by rw [if_neg c1,if_neg c2,if_pos h] at hz; omega
      have c4:¬ (-8388608 ≤ m∧m ≤ 8388607):=fun h=>by rw [if_neg c1,if_neg c2,if_neg c3,if_pos h] at hz; omega
      unfold ndata; rw [if_neg c1,if_neg c2,if_neg c3,if_neg c4,if_pos (by omega)]
    split at e
    · rename_i hf
      refine fin 8 244 (u8_of b 244 hf) e (fun m hm=>by unfold fits at hm; unfold I64; omega) (fun m hm hz=>?_)
      unfold nsize at hz; unfold fits at hm
      have c1:¬ (0 ≤ m∧m ≤ 127):=fun h=>by rw [if_pos h] at hz; omega
      have c2:¬ (-4096 ≤ m∧m ≤ 4095):=fun h=>by rw [if_neg c1,if_pos h] at hz; omega
      have c3:¬ (-32768 ≤ m∧m ≤ 32767):=fun h=>by rw [if_neg c1,if_neg c2,if_pos h] at hz; omega
      have c4:¬ (-8388608 ≤ m∧m ≤ 8388607):=fun h=>by rw [if_neg c1,if_neg c2,if_neg c3,if_pos h] at hz; omega
      have c5:¬ (-2147483648 ≤ m∧m ≤ 2147483647):=fun h=>by rw [if_neg c1,if_neg c2,if_neg c3,if_neg c4,if_pos h] at hz; omega
      unfold ndata; rw [if_neg c1,if_neg c2,if_neg c3,if_neg c4,if_neg c5]
    · cases e
theorem rd_span {s:List UInt8} {it:Item} {n:Nat} (e:rdItem s=some (it,n)):1 ≤ n∧n ≤ s.length:=by
  cases s with
  | nil=>cases e
  | cons b t =>
    rw [rdItem_cons] at e
    have ht:∀ {h L},1 ≤ h → txtAt (b :: t) h L=some (it,n) → 1 ≤ n∧n ≤ (b :: t).length:=fun hh e=>by
      obtain ⟨h1,_,h3⟩:=txtAt_some e; omega
    have hm:∀ {k},numAt (b :: t) k=some (it,n) → 1 ≤ n∧n ≤ (b :: t).length:=fun e=>by
      obtain ⟨h1,_,h3⟩:=numAt_some e; omega
    have hs:∀ {x:Item} {k:Nat},1 ≤ k → k ≤ (b :: t).length → some (x,k)=some (it,n) → 1 ≤ n∧n ≤ (b :: t).length:=fun h1 h2 e=>by
      have:=congrArg Prod.snd (Option.some.inj e); simp only at this; omega
    unfold rdF at e
    split at e
    · exact hs (Nat.le_refl _) (by simp) e
    split at e
    · exact ht (Nat.le_refl _) e
    split at e
    · split at e
      · exact hs (by decide) (by assumption) e
      · cases e
    split at e
    · split at e
      · exact ht (by decide) e
      · cases e
    split at e
    · split at e
      · exact ht (by decide) e
      · cases e
    split at e
    · exact hm e
    split at e
    · exact hm e
    split at e
    · exact hm e
    split at e
    · exact hm e
    · cases e

/-! back lengths. -/
def bsz (n:Nat):Nat:=if n < 128 then 1 else if n < 16384 then 2 else if n < 2097152 then 3 else if n < 268435456 then 4 else 5
def bbyte (n g i:Nat):UInt8:=UInt8.ofNat (n / 128 ^ (g - 1 - i) % 128 + if 0 < i then 128 else 0)
def back (n:Nat):List UInt8:=(List.range (bsz n)).map (bbyte n (bsz n))
theorem back_len (n:Nat):(back n).length=bsz n:=by simp [back]
theorem bsz_pos (n:Nat):1 ≤ bsz n:=by unfold bsz; (repeat' split) <;> omega
theorem bsz_le (n:Nat):bsz n ≤ 5:=by unfold bsz; (repeat' split) <;> omega
theorem bsz_le3 (n:Nat) (h:n < 2097152):bsz n ≤ 3:=by unfold bsz; (repeat' split) <;> omega
def ent (it:Item):List UInt8:=data it ++ back (dsize it)
def esz (it:Item):Nat:=dsize it + bsz (dsize it)
theorem ent_len (it:Item):(ent it).length=esz it:=by unfold ent esz; rw [List.length_append,data_len,back_len]
theorem esz_pos (it:Item):2 ≤ esz it:=by have:=dsize_pos it; have:=bsz_pos (dsize it); unfold esz; omega
theorem esz_le (it:Item) (h:Wf it):esz it ≤ 524296:=by have:=dsize_le it h; have:=bsz_le3 (dsize it) (by omega); unfold esz; omega
def bodyOf (l:List Item):List UInt8:=l.flatMap ent
theorem bodyOf_cons (it:Item) (l:List Item):bodyOf (it :: l)=ent it ++ bodyOf l:=by simp [bodyOf]
theorem bodyOf_app (a b:List Item):bodyOf (a ++ b)=bodyOf a ++ bodyOf b:=by simp [bodyOf]
def bsum (l:List Item):Nat:=(l.map esz).foldr (· + ·) 0
theorem bsum_cons (it:Item) (l:List Item):bsum (it :: l)=esz it + bsum l:=rfl
theorem bsum_app:∀ a b:List Item,bsum (a ++ b)=bsum a + bsum b
  | [],b=>by simp [bsum]
  | x :: a,b=>by rw [List.cons_append,bsum_cons,bsum_cons,bsum_app a b]; omega
theorem bodyOf_len:∀ l:List Item,(bodyOf l).length=bsum l
  | []=>rfl
  | x :: l=>by rw [bodyOf_cons,List.length_append,ent_len,bodyOf_len l,bsum_cons]
theorem bsum_ge:∀ l:List Item,2 * l.length ≤ bsum l
  | []=>by simp
  | x :: l=>by have:=bsum_ge l; have:=esz_pos x; rw [bsum_cons,List.length_cons]; omega

/-! the entries of a body. -/
structure Ent where
  place:Nat
  it:Item
  begin:Nat
  span:Nat
def esp (n:Nat):Nat:=n + bsz n
def parse:Nat → Nat → Nat → List UInt8 → List Ent × Bool
  | 0,_,_,_=>([],true)
  | k + 1,p,at_,s =>
    if s=[] then ([],false)
    else match rdItem s with
      | none=>([],true)
      | some (it,n)=>(⟨p,it,at_,n⟩ :: (parse k (p + 1) (at_ + esp n) (s.drop (esp n))).1,(parse k (p + 1) (at_ + esp n) (s.drop (esp n))).2)
theorem parse_nil (k p a:Nat):parse (k + 1) p a []=([],false):=by simp [parse]
theorem parse_none (k p a:Nat) {s:List UInt8} (hs:s ≠ []) (h:rdItem s=none):parse (k + 1) p a s=([],true):=by
  simp only [parse]; rw [if_neg hs,h]
theorem parse_some (k p a:Nat) {s:List UInt8} {it:Item} {n:Nat} (h:rdItem s=some (it,n)) :
    parse (k + 1) p a s=(⟨p,it,a,n⟩ :: (parse k (p + 1) (a + esp n) (s.drop (esp n))).1,(parse k (p + 1) (a + esp n) (s.drop (esp n))).2):=by
  have hs:s ≠ []:=by rintro rfl; cases h
  simp only [parse]; rw [if_neg hs,h]
def entsFrom:Nat → Nat → List Item → List Ent
  | _,_,[]=>[]
  | p,a,it :: l=>⟨p,it,a,dsize it⟩ :: entsFrom (p + 1) (a + esz it) l
theorem ents_items:∀ (l:List Item) (p a:Nat),(entsFrom p a l).map Ent.it=l
  | [],_,_=>rfl
  | x :: l,p,a=>by simp [entsFrom,ents_items l]
theorem ents_len:∀ (l:List Item) (p a:Nat),(entsFrom p a l).length=l.length
  | [],_,_=>rfl
  | x :: l,p,a=>by simp [entsFrom,ents_len l]
theorem parse_body:∀ (l:List Item) (k p a:Nat),(∀ it ∈ l,Wf it) → l.length < k → parse k p a (bodyOf l)=(entsFrom p a l,false)
  | [],k + 1,p,a,_,_=>by simp [bodyOf,parse,entsFrom]
  | x :: l,k + 1,p,a,hw,hk=>by
    have hx:=hw x (by simp)
    have hr:rdItem (bodyOf (x :: l))=some (x,dsize x):=by
      rw [bodyOf_cons]; unfold ent; rw [List.append_assoc]; exact rd_data x hx _
    rw [parse_some k p a hr]
    have hd:(bodyOf (x :: l)).drop (esp (dsize x))=bodyOf l:=by
      rw [bodyOf_cons]; exact List.drop_left' (ent_len x)
    rw [hd,show a + esp (dsize x)=a + esz x from rfl,parse_body l k (p + 1) (a + esz x) (fun it h=>hw it (by simp [h])) (by simpa using hk)]
    rfl
def okEnt (body:List UInt8) (e:Ent):Prop:=(dsize e.it=e.span∧e.it.txt.length ≤ 524288)∧numberOf e.it.txt=none∧(body.drop (e.begin + e.span)).take (bsz e.span)=back e.span
theorem body_parse (b:List UInt8):∀ (k p a:Nat) (s:List UInt8),s=b.drop a → (parse k p a s).2=false → (∀ e ∈ (parse k p a s).1,okEnt b e) →
    ∃ l:List Item,(∀ it ∈ l,Wf it)∧s=bodyOf l∧(parse k p a s).1=entsFrom p a l
  | 0,p,a,s,_,h,_=>by simp [parse] at h
  | k + 1,p,a,s,hs,h,hok=>by
    by_cases hn:s=[]
    · subst hn; exact ⟨[],by simp,by simp [bodyOf],by rw [parse_nil]; rfl⟩
    · cases hr:rdItem s with
      | none=>rw [parse_none k p a hn hr] at h; simp at h
      | some x =>
        obtain ⟨it,n⟩:=x
        rw [parse_some k p a hr] at h hok
        simp only at h hok
        have ho:=hok ⟨p,it,a,n⟩ (by simp)
        obtain ⟨⟨ho1,ho2⟩,ho3,ho4⟩:=ho
        simp only at ho1 ho2 ho3 ho4
        obtain ⟨q1,q2,q3⟩:=one_form s it n hr ho1 ho2 ho3
        have hb:(s.drop n).take (bsz n)=back n:=by rw [hs,List.drop_drop]; exact ho4
        obtain ⟨l,i1,i2,i3⟩:=body_parse b k (p + 1) (a + esp n) (s.drop (esp n)) (by rw [hs,List.drop_drop]) h (fun e he=>hok e (by simp [he]))
        refine ⟨it :: l,?_,?_,?_⟩
        · intro x hx; rcases List.mem_cons.1 hx with rfl | hx
          · exact q2
          · exact i1 x hx
        · rw [bodyOf_cons,← i2]
          have:ent it=s.take (esp n):=by
            unfold ent esp; rw [List.take_add,q3,hb,ho1]
          rw [this,List.take_append_drop]
        · rw [parse_some k p a hr]; simp only [entsFrom]
          rw [i3,ho1]; unfold esz esp; rw [ho1]
theorem ents_ok (body:List UInt8):∀ (l:List Item) (p a:Nat),(∀ it ∈ l,Wf it) → body.drop a=bodyOf l → ∀ e ∈ entsFrom p a l,okEnt body e
  | [],p,a,_,_,e,he=>by simp [entsFrom] at he
  | x :: l,p,a,hw,hb,e,he=>by
    have hx:=hw x (by simp)
    rcases List.mem_cons.1 he with rfl | he
    · refine ⟨⟨rfl,?_⟩,?_,?_⟩
      · rcases hx with ⟨_,h,_⟩ | ⟨_,_,_,h⟩
        · show x.txt.length ≤ _; rw [h]; simp
        · exact h
      · rcases hx with ⟨_,h,_⟩ | ⟨_,_,h,_⟩
        · show numberOf x.txt=none; rw [h]; decide +kernel
        · exact h
      · show (body.drop (a + dsize x)).take (bsz (dsize x))=_
        rw [← List.drop_drop,hb,bodyOf_cons]; unfold ent
        rw [List.append_assoc,List.drop_left' (data_len x),List.take_left' (back_len _)]
    · refine ents_ok body l (p + 1) (a + esz x) (fun it h=>hw it (by simp [h])) ?_ e he
      rw [← List.drop_drop,hb,bodyOf_cons,List.drop_left' (ent_len x)]

/-! the listpack of these items. -/
def build (l:List Item):List UInt8:=leB 4 ((7 + bsum l:Nat):Int) ++ (leB 2 ((min l.length 65535:Nat):Int) ++ (bodyOf l ++ [255]))
theorem build_len (l:List Item):(build l).length=7 + bsum l:=by
  unfold build; simp only [List.length_append,leB_len,bodyOf_len,List.length_cons,List.length_nil]; omega
structure Pk (p:List UInt8) (l:List Item):Prop where
  wf:∀ it ∈ l,Wf it
  len:l.length ≤ 1048576
  eq:p=build l
  size:p.length ≤ 1073741824
def bod (p:List UInt8):List UInt8:=(p.drop 6).take (p.length - 7)
theorem build_body (l:List Item):bod (build l)=bodyOf l:=by
  unfold bod; rw [build_len]
  have e:(build l).drop 6=bodyOf l ++ [255]:=by
    unfold build; rw [← List.append_assoc,List.drop_left' (by simp [leB_len])]
  rw [e,List.take_left' (by rw [bodyOf_len]; omega)]
theorem Pk.ents {p l} (h:Pk p l):parse (p.length + 1) 0 0 (bod p)=(entsFrom 0 0 l,false):=by
  have:=bsum_ge l
  have hl:=h.size
  rw [h.eq,build_body,build_len]
  exact parse_body l _ 0 0 h.wf (by omega)
theorem Pk.uniq {p l m} (h:Pk p l) (h':Pk p m):l=m:=by
  have:=h.ents.symm.trans h'.ents
  have:=congrArg Prod.fst this
  simp only at this
  rw [← ents_items l 0 0,this,ents_items]
structure Reads (p:List UInt8):Prop where
  len7:7 ≤ p.length
  size:p.length ≤ 1073741824
  last:p.getD (p.length - 1) 0=255
  head:leN (p.take 4)=p.length
  ok:(parse (p.length + 1) 0 0 (bod p)).2=false
  one:∀ e ∈ (parse (p.length + 1) 0 0 (bod p)).1,okEnt (bod p) e
  many:(parse (p.length + 1) 0 0 (bod p)).1.length ≤ 1048576
  cnt:leN ((p.drop 4).take 2)=min (parse (p.length + 1) 0 0 (bod p)).1.length 65535
theorem Pk.reads {p l} (h:Pk p l):Reads p:=by
  have he:=h.ents
  have hw:=h.wf
  have hs:=h.size
  have hsum:7 + bsum l ≤ 1073741824:=by rw [← build_len,← h.eq]; exact hs
  have hlen:p.length=7 + bsum l:=by rw [h.eq,build_len]
  refine ⟨by omega,hs,?_,?_,by rw [he],?_,by rw [he]; simpa [ents_len] using h.len,?_⟩
  · have e:build l=(leB 4 ((7 + bsum l:Nat):Int) ++ (leB 2 ((min l.length 65535:Nat):Int) ++ bodyOf l)) ++ [255]:=by simp [build]
    rw [hlen,h.eq,e,List.getD_eq_getElem?_getD,List.getElem?_append_right (by simp [leB_len,bodyOf_len]; omega)]
    have:7 + bsum l - 1 - (leB 4 ((7 + bsum l:Nat):Int) ++ (leB 2 ((min l.length 65535:Nat):Int) ++ bodyOf l)).length=0:=by
      simp only [List.length_append,leB_len,bodyOf_len]; omega
    rw [this]; rfl
  · rw [hlen,h.eq]; unfold build; rw [List.take_left' (leB_len _ _),leB_nat _ _ (by omega)]
  · rw [he,h.eq,build_body]; exact ents_ok _ l 0 0 hw (by simp)
  · rw [he,h.eq]; unfold build
    rw [List.drop_left' (leB_len _ _),List.take_left' (leB_len _ _),leB_nat _ _ (by omega)]
    simp [ents_len]
theorem Reads.pk {p} (h:Reads p):∃ l,Pk p l∧(parse (p.length + 1) 0 0 (bod p)).1=entsFrom 0 0 l:=by
  obtain ⟨l,h1,h2,h3⟩:=body_parse (bod p) (p.length + 1) 0 0 (bod p) (by simp) h.ok h.one
  refine ⟨l,⟨h1,?_,?_,h.size⟩,h3⟩
  · have:=h.many; rw [h3,ents_len] at this; exact this
  · have h7:=h.len7; have hs:=h.size
    have e0:p=p.take 4 ++ ((p.drop 4).take 2 ++ (bod p ++ [255])):=by
      have e1:p.drop 6=bod p ++ [255]:=by
        have e2:p.drop 6=(p.drop 6).take (p.length - 7) ++ (p.drop 6).drop (p.length - 7):=(List.take_append_drop _ _).symm
        have e3:(p.drop 6).drop (p.length - 7)=[255]:=by
          rw [List.drop_drop,show 6 + (p.length - 7)=p.length - 1 by omega]
          have hl:=h.last
          rw [List.drop_eq_getElem_cons (by omega),List.drop_eq_nil_of_le (by omega)]
          rw [List.getD_eq_getElem?_getD,List.getElem?_eq_getElem (by omega)] at hl
          simp only [Option.getD_some] at hl
          rw [hl]
        rw [e3] at e2
        exact e2
      conv=>lhs; rw [← List.take_append_drop 4 p,← List.take_append_drop 2 (p.drop 4),List.drop_drop,e1]
    have hlen:p.length=7 + bsum l:=by
      have:=congrArg List.length e0
      rw [h2] at this
      simp only [List.length_append,List.length_take,List.length_drop,bodyOf_len,List.length_cons,List.length_nil] at this
      omega
    unfold build
    rw [← h2]
    conv=>lhs; rw [e0]
    have k1:leB 4 ((7 + bsum l:Nat):Int)=p.take 4:=by
      refine leN_inj _ _ (by rw [leB_len,List.length_take]; omega) ?_
      rw [leB_nat _ _ (by omega),h.head,hlen]
    have k2:leB 2 ((min l.length 65535:Nat):Int)=(p.drop 4).take 2:=by
      refine leN_inj _ _ (by rw [leB_len,List.length_take,List.length_drop]; omega) ?_
      rw [leB_nat _ _ (by omega),h.cnt,h3,ents_len]
    rw [k1,k2]
end Go.Proofs.YtiefeeoellagnaaGreatDoor.S6.LM
namespace Go.Proofs.YtiefeeoellagnaaGreatDoor.S6
open Go.RowKit
set_option linter.unusedVariables false
def pch:List PanicEntry:=[{ v:=.iface 28 (.int .i64 60),recovered:=false }]
theorem must_ok (w:World):Calls Tryz.prog 317 #[.bool true] w fun e w'=>e=.returned (.tuple #[])∧w'=w:=by
  go_enter Tryz.func317,Tryz.ntmps317
  go_wp2
  go_end0
  exact ⟨rfl,rfl⟩
theorem must_bad (w:World):Calls Tryz.prog 317 #[.bool false] w fun e w'=>e=.panicked pch∧w'=w:=by
  go_enter Tryz.func317,Tryz.ntmps317
  go_wp2
  exact ⟨rfl,rfl,rfl⟩
theorem th_any (l:Nat) (h:l ≤ 9223372036854775807) (w:World):Calls Tryz.prog 376 #[.int .i64 (l:Int)] w fun e w'=>e=.returned (.int .i64 (LM.thead l:Nat))∧w'=w:=by
  have HT:Hid (LM.thead l=if l ≤ 63 then 1 else if l ≤ 4095 then 2 else 5):=rfl
  go_enter Tryz.func376,Tryz.ntmps376
  go_wp2
  · go_ret; refine ⟨?_,rfl⟩; rw [HT.out,if_pos (by omega)]; rfl
  · go_ret; refine ⟨?_,rfl⟩; rw [HT.out,if_neg (by omega),if_pos (by omega)]; rfl
  · go_ret; refine ⟨?_,rfl⟩; rw [HT.out,if_neg (by omega),if_neg (by omega)]; rfl
def sgn (c:Int) (n:Int):Int:=wrap64 (n * c) / c
theorem signed_13 (n:Int) (w:World):Calls Tryz.prog 366 #[.int .i64 n,.int .i64 13] w fun e w'=>e=.returned (.int .i64 (sgn 2251799813685248 n))∧w'=w:=by
  go_enter Tryz.func366,Tryz.ntmps366
  go_wp2
  go_ret
  exact ⟨rfl,rfl⟩
theorem signed_16 (n:Int) (w:World):Calls Tryz.prog 366 #[.int .i64 n,.int .i64 16] w fun e w'=>e=.returned (.int .i64 (sgn 281474976710656 n))∧w'=w:=by
  go_enter Tryz.func366,Tryz.ntmps366
  go_wp2
  go_ret
  exact ⟨rfl,rfl⟩
theorem signed_24 (n:Int) (w:World):Calls Tryz.prog 366 #[.int .i64 n,.int .i64 24] w fun e w'=>e=.returned (.int .i64 (sgn 1099511627776 n))∧w'=w:=by
  go_enter Tryz.func366,Tryz.ntmps366
  go_wp2
  go_ret
  exact ⟨rfl,rfl⟩
theorem signed_32 (n:Int) (w:World):Calls Tryz.prog 366 #[.int .i64 n,.int .i64 32] w fun e w'=>e=.returned (.int .i64 (sgn 4294967296 n))∧w'=w:=by
  go_enter Tryz.func366,Tryz.ntmps366
  go_wp2
  go_ret
  exact ⟨rfl,rfl⟩
theorem signed_64 (n:Int) (w:World):Calls Tryz.prog 366 #[.int .i64 n,.int .i64 64] w fun e w'=>e=.returned (.int .i64 (wrap64 n))∧w'=w:=by
  go_enter Tryz.func366,Tryz.ntmps366
  go_wp2
  go_ret
  exact ⟨rfl,rfl⟩
theorem fit_of {n c lo hi:Int} (h:(sgn c n == n)=decide (lo ≤ n∧n ≤ hi)):Ending.returned (Value.bool (sgn c n == n))=.returned (.bool (decide (lo ≤ n∧n ≤ hi))):=by rw [h]
theorem fits_13 (n:Int) (hn:LM.I64 n) (w:World):Calls Tryz.prog 400 #[.int .i64 n,.int .i64 13] w fun e w'=>e=.returned (.bool (decide (-4096 ≤ n∧n ≤ 4095)))∧w'=w:=by
  have H:Hid ((sgn 2251799813685248 n == n)=decide (-4096 ≤ n∧n ≤ 4095)):=by
    show _=_; rw [Bool.eq_iff_iff,beq_iff_eq,decide_eq_true_iff]; obtain ⟨h0,h1⟩:=hn; unfold sgn wrap64; omega
  go_enter Tryz.func400,Tryz.ntmps400
  go_wp2_with fail
  refine (signed_13 _ _).mono ?_
  rintro e w1 ⟨rfl,rfl⟩
  go_wp2
  go_ret
  exact ⟨fit_of H.out,rfl⟩
structure Wid (w:World):Prop where
  c0:w.cell? ⟨1,0,none⟩=some (.int .i64 2)
  c1:w.cell? ⟨1,1,none⟩=some (.int .i64 3)
  c2:w.cell? ⟨1,2,none⟩=some (.int .i64 4)
  c3:w.cell? ⟨1,3,none⟩=some (.int .i64 8)
theorem lt_of_cell {w:World} {a:Addr} {v:Value} (h:w.cell? a=some v):a.block < w.heap.size:=by
  obtain ⟨o,ho,_⟩:=cells_of_cell h; exact row_lt ho
theorem cell_on {w w':World} {a:Addr} {v:Value} (h:w.cell? a=some v) (hb:Below w.heap.size w w'):w'.cell? a=some v:=
  (hb.cell (p:=a) (lt_of_cell h)).trans h
theorem Wid.on {w w':World} (h:Wid w) (hb:Below w.heap.size w w'):Wid w':=⟨cell_on h.c0 hb,cell_on h.c1 hb,cell_on h.c2 hb,cell_on h.c3 hb⟩
def lw (n:Int):Nat:=if -32768 ≤ n∧n ≤ 32767 then 0 else if -8388608 ≤ n∧n ≤ 8388607 then 1 else if -2147483648 ≤ n∧n ≤ 2147483647 then 2 else 3
def wd (i:Nat):Nat:=if i=0 then 2 else if i=1 then 3 else if i=2 then 4 else 8
theorem dec_t {p:Prop} [Decidable p] (h:p):decide p=true:=by simpa using h
theorem dec_f {p:Prop} [Decidable p] (h:¬ p):decide p=false:=by simpa using h
theorem fitb (c n lo hi:Int) (h:wrap64 (n * c) / c=n ↔ (lo ≤ n∧n ≤ hi)):(wrap64 (n * c) / c == n)=decide (lo ≤ n∧n ≤ hi):=by
  rw [Bool.eq_iff_iff,beq_iff_eq,decide_eq_true_iff]; exact h
set_option maxHeartbeats 1000000 in
theorem least_any (n:Int) (hn:LM.I64 n) (w:World) (hw:Wid w):Calls Tryz.prog 378 #[.int .i64 n] w fun e w'=>e=.returned (.int .i64 (lw n:Nat))∧w'=w:=by
  obtain ⟨k0,k1,k2,k3⟩:=hw
  have HL:Hid (lw n=if -32768 ≤ n∧n ≤ 32767 then 0 else if -8388608 ≤ n∧n ≤ 8388607 then 1 else if -2147483648 ≤ n∧n ≤ 2147483647 then 2 else 3):=rfl
  have f1:=fitb 281474976710656 n (-32768) 32767 (by obtain ⟨h0,h1⟩:=hn; unfold wrap64; omega)
  have f2:=fitb 1099511627776 n (-8388608) 8388607 (by obtain ⟨h0,h1⟩:=hn; unfold wrap64; omega)
  have f3:=fitb 4294967296 n (-2147483648) 2147483647 (by obtain ⟨h0,h1⟩:=hn; unfold wrap64; omega)
  have f4:(wrap64 n == n)=true:=by rw [beq_iff_eq]; obtain ⟨h0,h1⟩:=hn; unfold wrap64; omega
  clear hn
  by_cases h1:-32768 ≤ n∧n ≤ 32767
  · rw [dec_t h1] at f1
    have HR:Hid (lw n=0):=by show _=_; rw [HL.out,if_pos h1]
    clear f2 f3 f4 h1
    go_enter Tryz.func378,Tryz.ntmps378
    go_wp2
    go_rounds 4
    go_ret
    exact ⟨by rw [HR.out]; rfl,rfl⟩
  rw [dec_f h1] at f1
  by_cases h2:-8388608 ≤ n∧n ≤ 8388607
  · rw [dec_t h2] at f2
    have HR:Hid (lw n=1):=by show _=_; rw [HL.out,if_neg h1,if_pos h2]
    clear f3 f4 h1 h2
    go_enter Tryz.func378,Tryz.ntmps378
    go_wp2
    go_rounds 4
    go_ret
    exact ⟨by rw [HR.out]; rfl,rfl⟩
  rw [dec_f h2] at f2
  by_cases h3:-2147483648 ≤ n∧n ≤ 2147483647
  · rw [dec_t h3] at f3
    have HR:Hid (lw n=2):=by show _=_; rw [HL.out,if_neg h1,if_neg h2,if_pos h3]
    clear f4 h1 h2 h3
    go_enter Tryz.func378,Tryz.ntmps378
    go_wp2
    go_rounds 4
    go_ret
    exact ⟨by rw [HR.out]; rfl,rfl⟩
  rw [dec_f h3] at f3
  have HR:Hid (lw n=3):=by show _=_; rw [HL.out,if_neg h1,if_neg h2,if_neg h3]
  clear h1 h2 h3
  go_enter Tryz.func378,Tryz.ntmps378
  go_wp2
  go_rounds 4
  go_ret
  exact ⟨by rw [HR.out]; rfl,rfl⟩
end Go.Proofs.YtiefeeoellagnaaGreatDoor.S6
namespace Go.Proofs.YtiefeeoellagnaaGreatDoor.S6
open Go.RowKit
set_option linter.unusedVariables false
theorem nsize_lw (n:Int) (h1:¬ (0 ≤ n∧n ≤ 127)) (h2:¬ (-4096 ≤ n∧n ≤ 4095)):LM.nsize n=1 + wd (lw n):=by
  unfold LM.nsize lw wd; rw [if_neg h1,if_neg h2]
  split
  · simp
  split
  · simp
  split
  · simp
  · simp
theorem wid_at {w:World} (h:Wid w) (i:Nat) (hi:i < 4):w.cell? ⟨1,i,none⟩=some (.int .i64 (wd i:Nat)):=by
  match i,hi with
  | 0,_=>exact h.c0
  | 1,_=>exact h.c1
  | 2,_=>exact h.c2
  | 3,_=>exact h.c3
theorem lw_lt (n:Int):lw n < 4:=by unfold lw; (repeat' split) <;> omega
theorem wd_le (i:Nat):wd i ≤ 8:=by unfold wd; (repeat' split) <;> omega
theorem nsz_any (n:Int) (hn:LM.I64 n) (w:World) (hw:Wid w):Calls Tryz.prog 375 #[.int .i64 n] w fun e w'=>e=.returned (.int .i64 (LM.nsize n:Nat))∧w'=w:=by
  have HN:Hid (LM.I64 n):=hn
  have HW:Hid (Wid w):=hw
  clear hn hw
  by_cases h1:0 ≤ n∧n ≤ 127
  · have HR:Hid (LM.nsize n=1):=by show _=_; unfold LM.nsize; rw [if_pos h1]
    have a0:=h1.1
    have a1:=h1.2
    clear h1
    go_enter Tryz.func375,Tryz.ntmps375
    go_wp2_with fail
    go_ret
    exact ⟨by rw [HR.out]; rfl,rfl⟩
  · have a0:decide (0 ≤ n)=false ∨ decide (n ≤ 127)=false:=by
      rcases (show ¬ 0 ≤ n ∨ ¬ n ≤ 127 by omega) with h | h
      · exact Or.inl (dec_f h)
      · exact Or.inr (dec_f h)
    by_cases h2:-4096 ≤ n∧n ≤ 4095
    · have HR:Hid (LM.nsize n=2):=by show _=_; unfold LM.nsize; rw [if_neg h1,if_pos h2]
      have ht:=dec_t h2
      rcases (show n < 0 ∨ (0 ≤ n∧127 < n) by omega) with c | ⟨c,c'⟩
      · clear h1 h2 a0
        go_enter Tryz.func375,Tryz.ntmps375
        go_wp2_with fail
        refine (fits_13 n HN.out _).mono ?_
        rintro e w1 ⟨rfl,rfl⟩
        rw [ht]
        go_wp2_with fail
        go_ret
        exact ⟨by rw [HR.out]; rfl,rfl⟩
      · clear h1 h2 a0
        go_enter Tryz.func375,Tryz.ntmps375
        go_wp2_with fail
        refine (fits_13 n HN.out _).mono ?_
        rintro e w1 ⟨rfl,rfl⟩
        rw [ht]
        go_wp2_with fail
        go_ret
        exact ⟨by rw [HR.out]; rfl,rfl⟩
    · have HR:Hid (LM.nsize n=1 + wd (lw n)):=nsize_lw n h1 h2
      have ht:=dec_f h2
      have hc:=wid_at HW.out (lw n) (lw_lt n)
      have hl:=lw_lt n
      have hd:=wd_le (lw n)
      rcases (show n < 0 ∨ (0 ≤ n∧127 < n) by omega) with c | ⟨c,c'⟩
      · clear h1 h2 a0
        go_enter Tryz.func375,Tryz.ntmps375
        go_wp2_with fail
        refine (fits_13 n HN.out _).mono ?_
        rintro e w1 ⟨rfl,rfl⟩
        rw [ht]
        go_wp2_with fail
        refine (least_any n HN.out _ HW.out).mono ?_
        rintro e w2 ⟨rfl,rfl⟩
        go_wp2
        go_ret
        refine ⟨?_,rfl⟩
        rw [HR.out]
        exact ret_int (by omega)
      · clear h1 h2 a0
        go_enter Tryz.func375,Tryz.ntmps375
        go_wp2_with fail
        refine (fits_13 n HN.out _).mono ?_
        rintro e w1 ⟨rfl,rfl⟩
        rw [ht]
        go_wp2_with fail
        refine (least_any n HN.out _ HW.out).mono ?_
        rintro e w2 ⟨rfl,rfl⟩
        go_wp2
        go_ret
        refine ⟨?_,rfl⟩
        rw [HR.out]
        exact ret_int (by omega)
end Go.Proofs.YtiefeeoellagnaaGreatDoor.S6
namespace Go.Proofs.YtiefeeoellagnaaGreatDoor.S6
open Go.RowKit
set_option linter.unusedVariables false
theorem of64 (z:Nat) (h:z < 18446744073709551616):(BitVec.ofInt 64 (wrap64 (z:Int))).toNat=z:=by
  rw [BitVec.toNat_ofInt]; unfold wrap64
  have:((((z:Int) + 9223372036854775808) % 18446744073709551616 - 9223372036854775808) % ((2 ^ 64:Nat):Int))=(z:Int):=by
    rw [show ((2 ^ 64:Nat):Int)=18446744073709551616 by decide]; omega
  rw [this]; omega
theorem w64_wrap (x:Int):IntKind.i64.wrap x=wrap64 x:=by rw [IntKind.wrap_i64]; unfold wrap64; rfl
theorem or64 (x b k:Nat) (hx:x < 2 ^ k) (hk:k ≤ 56) (hb:b < 256):bits .or .i64 (wrap64 (x:Int)) (wrap64 ((b * 2 ^ k:Nat):Int))=wrap64 ((x + b * 2 ^ k:Nat):Int):=by
  have h56:(2:Nat) ^ k ≤ 2 ^ 56:=Nat.pow_le_pow_right (by omega) hk
  have e56:(2:Nat) ^ 56=72057594037927936:=by decide
  have hm:b * 2 ^ k ≤ 255 * 2 ^ k:=Nat.mul_le_mul_right _ (by omega)
  show IntKind.i64.wrap ((BitVec.ofInt 64 (wrap64 (x:Int)) ||| BitVec.ofInt 64 (wrap64 ((b * 2 ^ k:Nat):Int))).toNat:Int)=_
  rw [BitVec.toNat_or,of64 _ (by omega),of64 _ (by omega),w64_wrap]
  have h2:=Nat.two_pow_add_eq_or_of_lt hx b
  rw [Nat.or_comm,Nat.mul_comm b,← h2,Nat.add_comm]
theorem leN_snoc (l:List UInt8) (b:UInt8):LM.leN (l ++ [b])=LM.leN l + b.toNat * 256 ^ l.length:=by
  rw [LM.leN_app]; simp only [LM.leN]; rw [Nat.mul_comm]; rfl
theorem take_more (l:List UInt8) (i:Nat) (b:UInt8) (h:l[i]?=some b):l.take (i + 1)=l.take i ++ [b]:=by
  obtain ⟨hi,e⟩:=List.getElem?_eq_some_iff.1 h
  rw [List.take_succ_eq_append_getElem hi,e]
theorem low_step (s:ByteArray) (i:Nat) (h:i < s.size) (h8:i < 8) :
    bits .or .i64 (wrap64 (LM.leN (s.data.toList.take i):Nat)) (wrap64 ((s[i].toNat * 2 ^ (8 * i):Nat):Int))=wrap64 (LM.leN (s.data.toList.take (i + 1)):Nat):=by
  have hl:(s.data.toList.take i).length=i:=by rw [List.length_take,list_len]; omega
  have hlt:=LM.leN_lt (s.data.toList.take i)
  have e:(256:Nat) ^ i=2 ^ (8 * i):=by rw [Nat.pow_mul]
  rw [hl,e] at hlt
  rw [take_more _ i s[i] (at_list s i h),leN_snoc,hl,e]
  exact or64 _ _ _ hlt (by omega) s[i].toNat_lt
set_option maxHeartbeats 4000000 in
set_option maxRecDepth 100000 in
theorem low_any (s:ByteArray) (h:s.size ≤ 8) (w:World):Calls Tryz.prog 318 #[.string s] w fun e w'=>e=.returned (.int .i64 (wrap64 (LM.leN s.data.toList:Nat)))∧w'=w:=by
  go_enter Tryz.func318,Tryz.ntmps318
  go_wp2
  go_loop [3,7,4,8,9,10,11,12,13,14,15,16,17,18,19] (fun n c _ _ _ _ _ _ _ _ _ _ _ _ _=>∃ i:Nat,i ≤ s.size∧c=.int .i64 (i:Int)∧n=.int .i64 (wrap64 (LM.leN (s.data.toList.take i):Nat))) (fun _ c _ _ _ _ _ _ _ _ _ _ _ _ _=>s.size - (intOf c).toNat)
  case atStart=>exact ⟨0,by omega,rfl,by simp [LM.leN,wrap64]⟩
  case round =>
    obtain ⟨i,hi,rfl,rfl⟩:=hrel
    by_cases hc:i=s.size
    · subst hc
      have HT:Hid (s.data.toList.take s.size=s.data.toList):=by show _=_; rw [List.take_of_length_le (by rw [list_len]; omega)]
      go_wp2
      go_ret
      refine ⟨?_,rfl⟩
      show Ending.returned (.int .i64 (wrap64 (LM.leN (s.data.toList.take s.size):Nat)))=_
      rw [HT.out]
    · have hlt:i < s.size:=by omega
      have hst:=low_step s i hlt (by omega)
      generalize LM.leN (s.data.toList.take i)=X at hst
      generalize hY:LM.leN (s.data.toList.take (i + 1))=Y at hst
      have HY:Hid _:=hY
      clear hY
      obtain ⟨c,hcb⟩:∃ c:Nat,s[i].toNat=c:=⟨_,rfl⟩
      have hc8:c < 256:=by rw [← hcb]; exact s[i].toNat_lt
      have hw:wrap64 (c:Int)=c:=by unfold wrap64; omega
      rw [hcb] at hst
      have h8:i < 8:=by omega
      rcases (show i=0 ∨ i=1 ∨ i=2 ∨ i=3 ∨ i=4 ∨ i=5 ∨ i=6 ∨ i=7 by omega) with rfl | rfl | rfl | rfl | rfl | rfl | rfl | rfl
      all_goals
        simp only [Nat.reduceMul,Nat.reducePow,Int.natCast_mul] at hst
        have HST:Hid _:=hst
        clear hst
        go_wp2
        go_round
        case measure=>simp [intOf]; omega
        refine ⟨_,hlt,rfl,?_⟩
        rw [HY.out]
        refine congrArg (Value.int .i64) ?_
        refine Eq.trans ?_ HST.out
        congr 1
      all_goals (unfold wrap64; omega)
theorem or8 (a b:Nat) (ha:a < 256) (hb:b < 256):bits .or .i64 ((a * 256:Nat):Int) (b:Int)=((a * 256 + b:Nat):Int):=by
  have h:=or64 b a 8 (by omega) (by omega) ha
  have e1:wrap64 (b:Int)=b:=by unfold wrap64; omega
  have e2:wrap64 ((a * 2 ^ 8:Nat):Int)=((a * 256:Nat):Int):=by unfold wrap64; omega
  rw [e1,e2] at h
  have hc:bits .or .i64 ((a * 256:Nat):Int) (b:Int)=bits .or .i64 (b:Int) ((a * 256:Nat):Int):=by
    show IntKind.i64.wrap ((BitVec.ofInt 64 _ ||| BitVec.ofInt 64 _).toNat:Int)=IntKind.i64.wrap ((BitVec.ofInt 64 _ ||| BitVec.ofInt 64 _).toNat:Int)
    rw [BitVec.or_comm]
  rw [hc,h]; unfold wrap64; omega
theorem or0 (b:Nat) (hb:b < 256):bits .or .i64 0 (b:Int)=(b:Int):=by
  have h:=or8 0 b (by omega) hb
  simpa using h
set_option maxHeartbeats 1000000 in
theorem high_2 (s:ByteArray) (h:s.size=2) (w:World):Calls Tryz.prog 367 #[.string s] w fun e w'=>e=.returned (.int .i64 (((s.data.toList.getD 0 0).toNat * 256 + (s.data.toList.getD 1 0).toNat:Nat):Int))∧w'=w:=by
  have l0:0 < s.size:=by omega
  have l1:1 < s.size:=by omega
  have g0:s.data.toList.getD 0 0=s[0]:=by rw [List.getD_eq_getElem?_getD,at_list s 0 l0]; rfl
  have g1:s.data.toList.getD 1 0=s[1]:=by rw [List.getD_eq_getElem?_getD,at_list s 1 l1]; rfl
  obtain ⟨c0,e0⟩:∃ c:Nat,s[0].toNat=c:=⟨_,rfl⟩
  obtain ⟨c1,e1⟩:∃ c:Nat,s[1].toNat=c:=⟨_,rfl⟩
  have b0:c0 < 256:=by rw [← e0]; exact s[0].toNat_lt
  have b1:c1 < 256:=by rw [← e1]; exact s[1].toNat_lt
  have o0:=or0 c0 b0
  have o1:=or8 c0 c1 b0 b1
  rw [show ((c0 * 256:Nat):Int)=(c0:Int) * 256 by omega] at o1
  have HG:Hid (((s.data.toList.getD 0 0).toNat * 256 + (s.data.toList.getD 1 0).toNat:Nat)=c0 * 256 + c1):=by show _=_; rw [g0,g1,e0,e1]
  clear g0 g1
  go_enter Tryz.func367,Tryz.ntmps367
  go_wp2
  go_rounds 3
  go_wp2
  go_ret
  exact ⟨by rw [HG.out]; rfl,rfl⟩
end Go.Proofs.YtiefeeoellagnaaGreatDoor.S6
namespace Go.Proofs.YtiefeeoellagnaaGreatDoor.S6
open Go.RowKit
set_option linter.unusedVariables false
def strE (l:List UInt8):ByteArray:=strB l
theorem ext_strB (s:ByteArray) (a b:Nat):s.extract a b=strB ((s.data.toList.drop a).take (b - a)):=by
  rw [← strB_of (s.extract a b),ext_any]
theorem cut_ok (s:ByteArray) (a k:Nat) (h:a + k ≤ s.size) (hs:s.size ≤ 9223372036854775807) (w:World):Calls Tryz.prog 364 #[.string s,.int .i64 a,.int .i64 k] w fun e w'=>e=.returned (.string (strB ((s.data.toList.drop a).take k)))∧w'=w:=by
  have hd:decide ((k:Int) ≤ (s.size:Int) - a)=true:=dec_t (by omega)
  have HE:Hid (s.extract a (a + k)=strB ((s.data.toList.drop a).take k)):=by show _=_; rw [ext_strB,show a + k - a=k by omega]
  go_enter Tryz.func364,Tryz.ntmps364
  go_wp2_with fail
  refine (must_ok _).mono ?_
  rintro e w1 ⟨rfl,rfl⟩
  go_wp2
  go_ret
  refine ⟨?_,rfl⟩
  rw [← HE.out]; rfl
theorem cut_bad (s:ByteArray) (a k:Nat) (h:s.size < a + k) (ha:a ≤ s.size) (hs:s.size ≤ 9223372036854775807) (w:World):Calls Tryz.prog 364 #[.string s,.int .i64 a,.int .i64 k] w fun e w'=>e=.panicked pch∧w'=w:=by
  have hd:decide ((k:Int) ≤ (s.size:Int) - a)=false:=dec_f (by omega)
  go_enter Tryz.func364,Tryz.ntmps364
  go_wp2_with fail
  refine (must_bad _).mono ?_
  rintro e w1 ⟨rfl,rfl⟩
  exact ⟨rfl,rfl,rfl⟩
theorem bl7:∀ n:Fin 128,1 ≤ n.val → 1 ≤ Lib.bitLen n.val∧Lib.bitLen n.val ≤ 7:=by decide +kernel
theorem bl_j (j n:Nat) (h1:128 ^ j ≤ n) (h2:n / 128 ^ j < 128) (h3:n < 2 ^ 64):7 * j + 1 ≤ Lib.bitLen n∧Lib.bitLen n ≤ 7 * j + 7:=by
  have e:(128:Nat) ^ j=2 ^ (7 * j):=by rw [Nat.pow_mul]
  rw [e] at h1 h2
  rw [Lib.bitLen_shift (7 * j) n h1 h3]
  have h4:1 ≤ n / 2 ^ (7 * j):=(Nat.one_le_div_iff (Nat.two_pow_pos _)).2 h1
  have:=bl7 ⟨n / 2 ^ (7 * j),h2⟩ h4
  simp only at this
  omega
theorem bsz_bl (n:Nat) (h1:1 ≤ n) (h2:n < 34359738368):(Lib.bitLen n + 6) / 7=LM.bsz n:=by
  unfold LM.bsz
  split
  · have:=bl_j 0 n (by simpa using h1) (by simpa using by assumption) (by omega); omega
  split
  · have:=bl_j 1 n (by simp; omega) (by simp; omega) (by omega); omega
  split
  · have:=bl_j 2 n (by simp; omega) (by simp; omega) (by omega); omega
  split
  · have:=bl_j 3 n (by simp; omega) (by simp; omega) (by omega); omega
  · have:=bl_j 4 n (by simp; omega) (by simp; omega) (by omega); omega
theorem bsz_any (n:Nat) (h1:1 ≤ n) (h2:n < 34359738368) (w:World):Calls Tryz.prog 322 #[.int .i64 n] w fun e w'=>e=.returned (.int .i64 (LM.bsz n:Nat))∧w'=w:=by
  have HB:Hid ((Lib.bitLen n + 6) / 7=LM.bsz n):=bsz_bl n h1 h2
  have hl:Lib.bitLen n ≤ 64:=by
    have:=bsz_bl n h1 h2; have:=LM.bsz_le n; omega
  go_enter Tryz.func322,Tryz.ntmps322
  go_wp2_with fail
  refine (Tryz.bits_Len n _ (by omega) (by omega)).mono ?_
  rintro e w1 ⟨rfl,rfl⟩
  rw [Int.toNat_natCast]
  go_wp2
  go_ret
  refine ⟨?_,rfl⟩
  rw [← HB.out]
  exact ret_int (by omega)
theorem bbyte_val (n g i:Nat):((LM.bbyte n g i).toNat:Int)=((n / 128 ^ (g - 1 - i) % 128 + (if 0 < i then 128 else 0):Nat):Int):=by
  unfold LM.bbyte; rw [LM.ofNat_toNat _ (by split <;> omega)]
set_option maxHeartbeats 1000000 in
theorem bb_any (n g i:Nat) (hn:n < 4294967296) (hg:g ≤ 3) (hi:i < g) (w:World):Calls Tryz.prog 346 #[.int .i64 n,.int .i64 g,.int .i64 i] w fun e w'=>e=.returned (.int .u8 ((LM.bbyte n g i).toNat:Int))∧w'=w:=by
  have HV:Hid _:=bbyte_val n g i
  rcases (show (g=1∧i=0) ∨ (g=2∧i=0) ∨ (g=2∧i=1) ∨ (g=3∧i=0) ∨ (g=3∧i=1) ∨ (g=3∧i=2) by omega) with ⟨rfl,rfl⟩ | ⟨rfl,rfl⟩ | ⟨rfl,rfl⟩ | ⟨rfl,rfl⟩ | ⟨rfl,rfl⟩ | ⟨rfl,rfl⟩
  all_goals
    go_enter Tryz.func346,Tryz.ntmps346
    go_wp2
    go_ret
    refine ⟨?_,rfl⟩
    rw [HV.out]
    refine congrArg (fun x=>Ending.returned (.int .u8 x)) ?_
    simp only [Nat.reduceSub,Nat.reducePow,Nat.lt_irrefl,Nat.zero_lt_succ,if_true,if_false,Nat.div_one,Nat.lt_add_one]
  all_goals omega
def encI (it:LM.Item):Value:=.agg #[.string (strB it.txt),.int .i64 it.num,.bool it.isN]
theorem size_num (n:Int) (t:ByteArray) (hn:LM.I64 n) (w:World) (hw:Wid w):Calls Tryz.prog 342 #[.agg #[.string t,.int .i64 n,.bool true]] w fun e w'=>e=.returned (.int .i64 (LM.nsize n:Nat))∧Below w.heap.size w w':=by
  have HW:Hid (Wid w):=hw
  have HN:Hid (LM.I64 n):=hn
  clear hw hn
  go_enter Tryz.func342,Tryz.ntmps342
  go_wp2_with fail
  refine (nsz_any n HN.out _ (HW.out.on ((Below.refl _ w).alloc (Nat.le_refl _) _))).mono ?_
  rintro e w1 ⟨rfl,rfl⟩
  go_wp2
  go_ret
  exact ⟨rfl,(Below.refl _ w).alloc (Nat.le_refl _) _⟩
theorem quiet0 {f:Nat} {args:Array Value} {v:Value} {w:World} (h:Calls Tryz.prog f args w fun e w'=>e=.returned v∧w'=w):Calls Tryz.prog f args w fun e w'=>e=.returned v∧∃ n,w'=w.drewN n:=
  h.mono (fun e w' ⟨h1,h2⟩=>⟨h1,0,h2⟩)
theorem size_txt (n:Int) (t:ByteArray) (ht:t.size ≤ 4294967296) (w:World):Calls Tryz.prog 342 #[.agg #[.string t,.int .i64 n,.bool false]] w fun e w'=>e=.returned (.int .i64 (LM.thead t.size + t.size:Nat))∧Below w.heap.size w w':=by
  have hth:LM.thead t.size ≤ 5:=by unfold LM.thead; (repeat' split) <;> omega
  obtain ⟨W1,hW1⟩:∃ W1,W1=w.alloc (.cells #[.string t,.int .i64 n,.bool false] 385):=⟨_,rfl⟩
  have HB:Hid (Below w.heap.size w W1):=by rw [hW1]; exact (Below.refl _ w).alloc (Nat.le_refl _) _
  have c0:W1.cell? ⟨w.heap.size,0,none⟩=some (.string t):=by rw [hW1]; simp [go_sem]
  have HC:Hid (∀ W,Calls Tryz.prog 376 #[.int .i64 (t.size:Int)] W fun e w'=>e=.returned (.int .i64 (LM.thead t.size:Nat))∧∃ n,w'=W.drewN n):=fun W=>quiet0 (th_any t.size (by omega) W)
  have hwr:IntKind.i64.wrap ((LM.thead t.size:Nat) + (t.size:Int))=((LM.thead t.size + t.size:Nat):Int):=by rw [IntKind.wrap_i64]; omega
  go_enter Tryz.func342,Tryz.ntmps342
  go_wp2
  rw [← hW1]
  clear hW1
  go_quiet ((go_at_call 376; exact Calls.quiet_of (HC.out _)))
  go_wp2
  go_ret
  exact ⟨ret_int (by omega),below_dn HB.out _⟩
end Go.Proofs.YtiefeeoellagnaaGreatDoor.S6
namespace Go.Proofs.YtiefeeoellagnaaGreatDoor.S6
open Go.RowKit
set_option linter.unusedVariables false
structure Only (w w':World) (g:Nat):Prop where
  os:w'.os=w.os
  tape:w'.tape=w.tape
  output:w'.output=w.output
  size:w'.heap.size=w.heap.size
  other:∀ k,k ≠ g → w'.heap[k]?=w.heap[k]?
theorem Only.refl (w:World) (g:Nat):Only w w g:=⟨rfl,rfl,rfl,rfl,fun _ _=>rfl⟩
theorem Only.trans {w w1 w2:World} {g:Nat} (h:Only w w1 g) (h':Only w1 w2 g):Only w w2 g:=
  ⟨h'.os.trans h.os,h'.tape.trans h.tape,h'.output.trans h.output,h'.size.trans h.size,fun k hk=>(h'.other k hk).trans (h.other k hk)⟩
theorem Only.below {w w':World} {g B:Nat} (h:Only w w' g) (hg:B ≤ g):Below B w w':=
  ⟨h.os,h.tape,h.output,by rw [h.size]; exact Nat.le_refl _,fun k hk=>h.other k (by omega)⟩
theorem Only.set {w w':World} {g:Nat} (h:Only w w' g) (i:Nat) (v:Value):Only w (w'.setCell ⟨g,i,none⟩ v) g:=
  h.trans ⟨rfl,rfl,rfl,by simp,fun k hk=>heap_setCell_other _ _ _ _ hk⟩
theorem one_alloc (w:World) (A:Obj):(w.alloc A).heap[w.heap.size]?=some A:=by
  show (w.heap.push A)[w.heap.size]?=some A
  rw [Array.getElem?_push,if_pos rfl]
theorem heap_set3 (w:World) (g T:Nat) (a b c v0 v1 v2:Value) (h:w.heap[g]?=some (.cells #[a,b,c] T)) :
    (((w.setCell ⟨g,0,none⟩ v0).setCell ⟨g,1,none⟩ v1).setCell ⟨g,2,none⟩ v2).heap[g]?=some (.cells #[v0,v1,v2] T)∧Only w (((w.setCell ⟨g,0,none⟩ v0).setCell ⟨g,1,none⟩ v1).setCell ⟨g,2,none⟩ v2) g:=by
  refine ⟨?_,(((Only.refl w g).set _ _).set _ _).set _ _⟩
  rw [heap_setCell_same _ _ _ _ _ _ (heap_setCell_same _ _ _ _ _ _ (heap_setCell_same _ _ _ _ _ _ h))]; rfl
theorem row3 {w:World} {g T:Nat} {v0 v1 v2:Value} (h:w.heap[g]?=some (.cells #[v0,v1,v2] T)) :
    w.cell? ⟨g,0,none⟩=some v0∧w.cell? ⟨g,1,none⟩=some v1∧w.cell? ⟨g,2,none⟩=some v2∧∀ j,w.frozen? ⟨g,j,none⟩=false:=by
  refine ⟨?_,?_,?_,fun j=>frozen_of_row _ _ _ _ _ h⟩ <;> rw [cell_of_row _ _ _ _ _ _ h] <;> rfl
theorem row5 {w:World} {g T:Nat} {v0 v1 v2 v3 v4:Value} (h:w.heap[g]?=some (.cells #[v0,v1,v2,v3,v4] T)) :
    w.cell? ⟨g,0,none⟩=some v0∧w.cell? ⟨g,1,none⟩=some v1∧w.cell? ⟨g,2,none⟩=some v2∧w.cell? ⟨g,3,none⟩=some v3∧w.cell? ⟨g,4,none⟩=some v4∧∀ j,w.frozen? ⟨g,j,none⟩=false:=by
  refine ⟨?_,?_,?_,?_,?_,fun j=>frozen_of_row _ _ _ _ _ h⟩ <;> rw [cell_of_row _ _ _ _ _ _ h] <;> rfl
theorem keep_row {w w':World} {g:Nat} {o:Obj} (h:w.heap[g]?=some o) (hb:Below w.heap.size w w'):w'.heap[g]?=some o:=(hb.block g (row_lt h)).trans h
theorem bel_to {B:Nat} {w w1 w2:World} (h1:Below B w w1) (h2:Below w1.heap.size w1 w2) (hB:B ≤ w.heap.size):Below B w w2:=h1.trans (h2.mono (Nat.le_trans hB h1.size))
def out (o:Option Value):Ending:=match o with
  | some v=>.returned v
  | none=>.panicked pch
def outI (o:Option (LM.Item × Nat)):Option Value:=o.map fun x=>.tuple #[encI x.1,.int .i64 (x.2:Int)]
end Go.Proofs.YtiefeeoellagnaaGreatDoor.S6
