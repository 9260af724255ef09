import Derived.Lib.ParseIntBTie
import Derived.Lib.ItoaLen
import Derived.Lib.ItoaMem
import Derived.Lib.Atoi
import Derived.Lib.Strings
namespace Go.Proofs.Vi
open Go.Lib

theorem decFrom_snoc:∀ (l:List UInt8) (acc n:Nat) (c:UInt8) (d:Nat),decFrom acc l=some n → digitVal c=some d → decFrom acc (l ++ [c])=some (n * 10 + d)
  | [],acc,n,c,d,h,hd=>by
    simp only [decFrom,Option.some.injEq] at h
    subst h
    simp [decFrom,hd]
  | b :: r,acc,n,c,d,h,hd=>by
    simp only [List.cons_append,decFrom] at h ⊢
    cases hb:digitVal b with
    | none=>rw [hb] at h; cases h
    | some e =>
      rw [hb] at h
      exact decFrom_snoc r _ n c d h hd
theorem digitVal_of (d:Nat) (h:d < 10):digitVal (UInt8.ofNat (48 + d))=some d:=by
  unfold digitVal
  rw [UInt8.toNat_ofNat']
  rw [show (48 + d) % 2 ^ 8=48 + d by omega,if_pos (by omega)]
  congr 1; omega
theorem digit_range {c:UInt8} {d:Nat} (h:digitVal c=some d):d < 10∧c=UInt8.ofNat (48 + d):=by
  obtain ⟨h1,h2,h3⟩:=digitVal_eq h
  refine ⟨by omega,?_⟩
  apply UInt8.toNat_inj.1
  rw [UInt8.toNat_ofNat']; omega
theorem decFrom_digits (u:Nat):decFrom 0 (decDigits u)=some u:=by
  induction u using Nat.strongRecOn with
  | ind u ih =>
    by_cases h:u < 10
    · rw [decDigits_one h]
      simp only [decFrom,digitVal_of u h]
      congr 1; omega
    · rw [decDigits,dif_neg h]
      have:=decFrom_snoc _ 0 _ _ _ (ih (u / 10) (by omega)) (digitVal_of (u % 10) (by omega))
      rw [this]; congr 1; omega
theorem decFrom_le:∀ (l:List UInt8) (acc n:Nat),decFrom acc l=some n → acc ≤ n
  | [],acc,n,h=>by simp [decFrom] at h; omega
  | b :: r,acc,n,h=>by
    simp only [decFrom] at h
    cases hb:digitVal b with
    | none=>rw [hb] at h; cases h
    | some e=>rw [hb] at h; have:=decFrom_le r _ n h; omega
theorem parse_of_dec:∀ (l:List UInt8) (acc u:Nat),decFrom acc l=some u → u < 18446744073709551616 → parseUint10 acc l=.ok u
  | [],acc,u,h,hu=>by simp [decFrom] at h; subst h; rfl
  | b :: r,acc,u,h,hu=>by
    simp only [decFrom] at h
    cases hb:digitVal b with
    | none=>rw [hb] at h; cases h
    | some e =>
      rw [hb] at h
      obtain ⟨h1,h2,rfl⟩:=digitVal_eq hb
      have h3:=decFrom_le r _ u h
      simp only [parseUint10]
      rw [if_pos ⟨h1,h2⟩,if_neg (by omega),if_neg (by omega)]
      exact parse_of_dec r _ u h hu
theorem dec_of_parse:∀ (l:List UInt8) (acc u:Nat),parseUint10 acc l=.ok u → decFrom acc l=some u
  | [],acc,u,h=>by simp only [parseUint10] at h; injection h with h; subst h; rfl
  | b :: r,acc,u,h=>by
    simp only [parseUint10] at h
    split at h
    · rename_i hd
      split at h
      · cases h
      · split at h
        · cases h
        · have:=dec_of_parse r _ u h
          simp only [decFrom,digitVal,if_pos hd]
          exact this
    · cases h
theorem decDigits_ne (u:Nat):decDigits u ≠ []:=by
  intro h
  have:=decDigits_length u
  rw [h] at this
  have h2:=nDigits_pos u
  simp at this
  omega
theorem digits_head (u:Nat):∃ c r,decDigits u=c :: r∧48 ≤ c.toNat∧c.toNat ≤ 57∧(1 ≤ u → 49 ≤ c.toNat):=by
  induction u using Nat.strongRecOn with
  | ind u ih =>
    by_cases h:u < 10
    · refine ⟨_,[],decDigits_one h,?_⟩
      rw [UInt8.toNat_ofNat']; omega
    · obtain ⟨c,r,e,h1,h2,h3⟩:=ih (u / 10) (by omega)
      refine ⟨c,r ++ [UInt8.ofNat (48 + u % 10)],?_,h1,h2,fun _=>h3 (by omega)⟩
      rw [decDigits,dif_neg h,e]; rfl
theorem snoc_dec {l:List UInt8} {c:UInt8} {acc u:Nat} (h:decFrom acc (l ++ [c])=some u):∃ m d,decFrom acc l=some m∧digitVal c=some d∧u=m * 10 + d:=by
  obtain ⟨m,hm⟩:=decFrom_prefix _ _ _ h l.length
  rw [List.take_left'] at hm
  · obtain ⟨d,hd⟩:=digit_of_decFrom _ _ _ h l.length c (by simp)
    refine ⟨m,d,hm,hd,?_⟩
    have:=decFrom_snoc l acc m c d hm hd
    rw [this] at h
    exact (Option.some.inj h).symm
  · rfl
theorem digits_of_dec:∀ (k:Nat) (l:List UInt8) (u:Nat),l.length=k + 1 → decFrom 0 l=some u → (∀ c r,l=c :: r → 49 ≤ c.toNat) → decDigits u=l:=by
  intro k
  induction k with
  | zero =>
    intro l u hl h hc
    match l,hl with
    | [c],_ =>
      simp only [decFrom] at h
      cases hd:digitVal c with
      | none=>rw [hd] at h; cases h
      | some d =>
        rw [hd] at h
        obtain ⟨h10,hce⟩:=digit_range hd
        simp only [Option.some.injEq] at h
        have:u=d:=by omega
        subst this
        rw [decDigits_one h10,← hce]
  | succ k ih =>
    intro l u hl h hc
    have hne:l ≠ []:=by intro e; rw [e] at hl; simp at hl
    obtain ⟨m,c,rfl⟩:∃ m c,l=m ++ [c]:=⟨l.dropLast,l.getLast hne,(List.dropLast_concat_getLast hne).symm⟩
    obtain ⟨v,d,hv,hd,rfl⟩:=snoc_dec h
    have hml:m.length=k + 1:=by simp at hl; omega
    have e:=ih m v hml hv (fun c' r hm=>hc c' (r ++ [c]) (by rw [hm]; rfl))
    obtain ⟨h10,hce⟩:=digit_range hd
    have hv1:1 ≤ v:=by
      rcases Nat.eq_zero_or_pos v with h0 | h0
      · subst h0
        have:=hc (UInt8.ofNat (48 + 0)) ([] ++ [c]) (by rw [← e,decDigits_one (by omega)]; rfl)
        rw [UInt8.toNat_ofNat'] at this
        omega
      · exact h0
    rw [decDigits,dif_neg (by omega),show (v * 10 + d) / 10=v by omega,show (v * 10 + d) % 10=d by omega,e,← hce]

def numberOf (l:List UInt8):Option Int:=
  match parseIntB 64 l with
  | .ok v=>if itoa v=l then some v else none
  | _=>none

theorem mag_of {l:List UInt8} {u:Nat} (hne:l ≠ []) (h:decFrom 0 l=some u) (hu:u < 18446744073709551616):parseMag l=.ok u:=by
  unfold parseMag; rw [if_neg hne]; exact parse_of_dec l 0 u h hu
theorem of_mag {l:List UInt8} {u:Nat} (h:parseMag l=.ok u):l ≠ []∧decFrom 0 l=some u:=by
  unfold parseMag at h
  split at h
  · cases h
  · rename_i hne
    exact ⟨hne,dec_of_parse l 0 u h⟩
theorem parse_itoa (v:Int) (h0:-9223372036854775808 ≤ v) (h1:v ≤ 9223372036854775807):parseIntB 64 (itoa v)=.ok v:=by
  rw [parseIntB_64]
  by_cases hn:v < 0
  · obtain ⟨u,hu⟩:∃ u:Nat,v=-(u:Int):=⟨v.natAbs,by omega⟩
    subst hu
    rw [itoa_neg u (by omega),atoiAll_minus,mag_of (decDigits_ne u) (decFrom_digits u) (by omega)]
    show (if 9223372036854775808 < u then NumEnd.range else .ok (-(u:Int)))=_
    rw [if_neg (by omega)]
  · obtain ⟨u,hu⟩:∃ u:Nat,v=(u:Int):=⟨v.toNat,by omega⟩
    subst hu
    rw [itoa_nonneg]
    obtain ⟨c,r,e,hc1,hc2,_⟩:=digits_head u
    have hm:=mag_of (decDigits_ne u) (decFrom_digits u) (by omega)
    rw [e] at hm ⊢
    rw [atoiAll_plain c r (by omega) (by omega),hm]
    show (if 9223372036854775808 ≤ u then NumEnd.range else .ok (u:Int))=_
    rw [if_neg (by omega)]
theorem numberOf_itoa (v:Int) (h0:-9223372036854775808 ≤ v) (h1:v ≤ 9223372036854775807):numberOf (itoa v)=some v:=by
  unfold numberOf; rw [parse_itoa v h0 h1]; simp
theorem numberOf_some {l:List UInt8} {v:Int} (h:numberOf l=some v):itoa v=l∧-9223372036854775808 ≤ v∧v ≤ 9223372036854775807∧parseIntB 64 l=.ok v:=by
  unfold numberOf at h
  split at h
  · rename_i x hx
    split at h
    · rename_i he
      have:x=v:=Option.some.inj h
      subst this
      have hb:=parseIntB_bounds hx
      simp at hb
      exact ⟨he,by omega,by omega,hx⟩
    · cases h
  · cases h
def body (l:List UInt8):List UInt8:=trimPrefix l [45]
theorem body_minus (r:List UInt8):body (45 :: r)=r:=by
  unfold body trimPrefix; simp [hasPrefix]
theorem body_other (c:UInt8) (r:List UInt8) (h:c ≠ 45):body (c :: r)=c :: r:=by
  unfold body trimPrefix
  have:hasPrefix (c :: r) [45]=false:=by simp [hasPrefix,List.isPrefixOf]; exact fun e=>h e.symm
  rw [this]; rfl
theorem numberOf_zero:numberOf [48]=some 0:=by decide +kernel
theorem numberOf_head {l:List UInt8} {v:Int} (h:numberOf l=some v):l=[48] ∨ ∃ c r,body l=c :: r∧49 ≤ c.toNat∧c.toNat ≤ 57:=by
  obtain ⟨rfl,h0,h1,_⟩:=numberOf_some h
  by_cases hn:v < 0
  · obtain ⟨u,hu⟩:∃ u:Nat,v=-(u:Int):=⟨v.natAbs,by omega⟩
    subst hu
    obtain ⟨c,r,e,hc1,hc2,hc3⟩:=digits_head u
    right
    refine ⟨c,r,?_,hc3 (by omega),hc2⟩
    rw [itoa_neg u (by omega),body_minus,e]
  · obtain ⟨u,hu⟩:∃ u:Nat,v=(u:Int):=⟨v.toNat,by omega⟩
    subst hu
    rw [itoa_nonneg]
    obtain ⟨c,r,e,hc1,hc2,hc3⟩:=digits_head u
    rcases Nat.eq_zero_or_pos u with hz | hp
    · subst hz; left; decide +kernel
    · right
      refine ⟨c,r,?_,hc3 hp,hc2⟩
      rw [e,body_other c r (by intro h; subst h; simp at hc1)]
theorem numberOf_parse {l:List UInt8} {c:UInt8} {r:List UInt8} (hb:body l=c :: r) (h1:49 ≤ c.toNat) (h2:c.toNat ≤ 57) {v:Int} (h:parseIntB 64 l=.ok v):numberOf l=some v:=by
  have key:itoa v=l:=by
    rw [parseIntB_64] at h
    cases l with
    | nil=>cases h
    | cons x t =>
      by_cases hx:x=45
      · subst hx
        rw [body_minus] at hb
        rw [atoiAll_minus] at h
        rcases hm:parseMag t with u | _ | _
        rotate_left
        · rw [hm] at h; cases h
        · rw [hm] at h; cases h
        · rw [hm] at h
          obtain ⟨hne,hd⟩:=of_mag hm
          have h':(if 9223372036854775808 < u then NumEnd.range else .ok (-(u:Int)))=NumEnd.ok v:=h
          split at h'
          · cases h'
          · injection h' with h'
            subst h'
            have e:=digits_of_dec r.length t u (by rw [hb]; rfl) hd (fun c' r' e'=>by rw [hb] at e'; injection e' with e1 _; subst e1; exact h1)
            have hu1:1 ≤ u:=by
              rcases Nat.eq_zero_or_pos u with hz | hp
              · subst hz
                rw [decDigits_one (by omega),hb] at e
                injection e with e1 _
                rw [← e1] at h1
                simp at h1
              · exact hp
            rw [itoa_neg u hu1,e]
      · rw [body_other x t hx] at hb
        injection hb with hb1 hb2
        subst hb1; subst hb2
        rw [atoiAll_plain x t (by omega) (by omega)] at h
        rcases hm:parseMag (x :: t) with u | _ | _
        rotate_left
        · rw [hm] at h; cases h
        · rw [hm] at h; cases h
        · rw [hm] at h
          obtain ⟨hne,hd⟩:=of_mag hm
          have h':(if 9223372036854775808 ≤ u then NumEnd.range else .ok (u:Int))=NumEnd.ok v:=h
          split at h'
          · cases h'
          · injection h' with h'
            subst h'
            have e:=digits_of_dec t.length (x :: t) u rfl hd (fun c' r' e'=>by injection e' with e1 _; subst e1; exact h1)
            rw [itoa_nonneg,e]
  unfold numberOf; rw [h]; simp [key]
theorem numberOf_bad {l:List UInt8} (h:∀ v,parseIntB 64 l ≠ .ok v):numberOf l=none:=by
  cases hn:numberOf l with
  | none=>rfl
  | some v=>exact absurd (numberOf_some hn).2.2.2 (h v)

def sg (neg:Bool) (m:Nat):Int:=if neg then -(m:Int) else m
def w64 (x:Int):Int:=(x + 9223372036854775808) % 18446744073709551616 - 9223372036854775808
theorem w64_range (x:Int):-9223372036854775808 ≤ w64 x∧w64 x ≤ 9223372036854775807:=by unfold w64; omega
theorem w64_id (x:Int) (h0:-9223372036854775808 ≤ x) (h1:x ≤ 9223372036854775807):w64 x=x:=by unfold w64; omega
theorem w64_step_pos (m d:Nat):w64 (w64 (w64 (sg false m) * 10) + d)=w64 (sg false (m * 10 + d)):=by unfold w64 sg; simp; omega
theorem w64_step_neg (m d:Nat):w64 (w64 (w64 (sg true m) * 10) + -(d:Int))=w64 (sg true (m * 10 + d)):=by unfold w64 sg; simp; omega
def isNeg (l:List UInt8):Bool:=match l with | c :: _=>c == 45 | []=>false
def off (l:List UInt8):Nat:=if isNeg l then 1 else 0
theorem body_drop (l:List UInt8):l.drop (off l)=body l:=by
  cases l with
  | nil=>rfl
  | cons c r =>
    by_cases h:c=45
    · subst h; rw [body_minus]; rfl
    · rw [body_other c r h]
      have:isNeg (c :: r)=false:=by simp [isNeg,h]
      simp [off,this]
theorem itoa_body (v:Int):isNeg (itoa v)=decide (v < 0)∧body (itoa v)=decDigits v.natAbs:=by
  by_cases hn:v < 0
  · obtain ⟨u,hu⟩:∃ u:Nat,v=-(u:Int):=⟨v.natAbs,by omega⟩
    subst hu
    rw [itoa_neg u (by omega),body_minus]
    refine ⟨?_,by simp⟩
    have:(decide (-(u:Int) < 0))=true:=by simpa using hn
    rw [this]; rfl
  · obtain ⟨u,hu⟩:∃ u:Nat,v=(u:Int):=⟨v.toNat,by omega⟩
    subst hu
    rw [itoa_nonneg]
    obtain ⟨c,r,e,hc1,hc2,_⟩:=digits_head u
    rw [e]
    have hne:c ≠ 45:=by intro h; subst h; simp at hc1
    rw [body_other c r hne]
    refine ⟨?_,by simp [e]⟩
    have:(decide ((u:Int) < 0))=false:=by simp
    rw [this]; simp [isNeg,hne]
theorem end_number (l:List UInt8) (m:Nat) (h:decFrom 0 (body l)=some m) :
    numberOf l=if itoa (w64 (sg (isNeg l) m))=l then some (w64 (sg (isNeg l) m)) else none:=by
  obtain ⟨r0,r1⟩:=w64_range (sg (isNeg l) m)
  split
  · rename_i he
    have:=numberOf_itoa _ r0 r1
    rw [he] at this
    exact this
  · rename_i he
    cases hn:numberOf l with
    | none=>rfl
    | some v =>
      obtain ⟨rfl,h0,h1,_⟩:=numberOf_some hn
      obtain ⟨e1,e2⟩:=itoa_body v
      rw [e2,decFrom_digits] at h
      have hm:=Option.some.inj h
      have:sg (isNeg (itoa v)) m=v:=by
        rw [e1]; unfold sg
        by_cases hv:v < 0
        · simp [hv]; omega
        · simp [hv]; omega
      rw [this,w64_id v h0 h1] at he
      exact absurd rfl he
theorem bad_digit (l:List UInt8) (k:Nat) (c:UInt8) (hk:off l ≤ k) (hc:l[k]?=some c) (hd:¬ (48 ≤ c.toNat∧c.toNat ≤ 57)):numberOf l=none:=by
  cases hn:numberOf l with
  | none=>rfl
  | some v =>
    obtain ⟨e,h0,h1,_⟩:=numberOf_some hn
    have e2:=(itoa_body v).2
    rw [e] at e2
    have hbd:decFrom 0 (body l)=some v.natAbs:=by rw [e2]; exact decFrom_digits _
    have hbk:(body l)[k - off l]?=some c:=by
      rw [← body_drop,List.getElem?_drop,show off l + (k - off l)=k by omega]; exact hc
    obtain ⟨d,hdv⟩:=digit_of_decFrom _ _ _ hbd _ _ hbk
    obtain ⟨a,b,_⟩:=digitVal_eq hdv
    exact absurd ⟨a,b⟩ hd
theorem bad_long (l:List UInt8) (h:21 < l.length):numberOf l=none:=by
  cases hn:numberOf l with
  | none=>rfl
  | some v =>
    obtain ⟨e,h0,h1,_⟩:=numberOf_some hn
    have:=itoa_length_le v h0 h1
    rw [e] at this
    omega
theorem digits_step (u:Nat) (r:List UInt8):(if u / 10=0 then [] else decDigits (u / 10)) ++ (UInt8.ofNat (48 + u % 10) :: r)=decDigits u ++ r:=by
  by_cases h10:u < 10
  · rw [if_pos (by omega),decDigits_one h10,show u % 10=u by omega]; rfl
  · have e:decDigits u=decDigits (u / 10) ++ [UInt8.ofNat (48 + u % 10)]:=by rw [decDigits,dif_neg h10]
    rw [if_neg (by omega),e]; simp
end Go.Proofs.Vi
set_option linter.unusedVariables false
namespace Go.Proofs.YtijambehfobopaaGreatDoor.LM
open Go.Proofs.Vi
def leN:List UInt8 → Nat
  | []=>0
  | b :: t=>b.toNat + 256 * leN t
theorem leN_lt:∀ l:List UInt8,leN l < 256 ^ l.length
  | []=>by simp [leN]
  | b :: t=>by
    have h1:=leN_lt t; have h2:=b.toNat_lt
    simp only [leN,List.length_cons,Nat.pow_succ]
    omega
theorem leN_app:∀ a b:List UInt8,leN (a ++ b)=leN a + 256 ^ a.length * leN b
  | [],b=>by simp [leN]
  | x :: t,b=>by
    have h:=leN_app t b
    simp only [List.cons_append,leN,h,List.length_cons,Nat.pow_succ]
    rw [Nat.mul_add,Nat.mul_comm (256 ^ t.length) 256,Nat.mul_assoc]
    omega
theorem leN_inj:∀ a b:List UInt8,a.length=b.length → leN a=leN b → a=b
  | [],[],_,_=>rfl
  | x :: s,y :: t,hl,h=>by
    have hx:=x.toNat_lt; have hy:=y.toNat_lt
    simp only [leN] at h
    have h1:x.toNat=y.toNat:=by omega
    have h2:leN s=leN t:=by omega
    rw [leN_inj s t (by simpa using hl) h2,UInt8.toNat_inj.1 h1]
def leB:Nat → Int → List UInt8
  | 0,_=>[]
  | w + 1,n=>UInt8.ofNat (n % 256).toNat :: leB w (n / 256)
theorem leB_len:∀ w n,(leB w n).length=w
  | 0,_=>rfl
  | w + 1,n=>by simp [leB,leB_len w]
theorem ofNat_toNat (k:Nat) (h:k < 256):(UInt8.ofNat k).toNat=k:=by
  rw [UInt8.toNat_ofNat']; omega
theorem emod_mul2 (n a b:Int) (ha:0 < a) (hb:0 < b):n % (a * b)=n % a + a * ((n / a) % b):=by
  have h1:=Int.emod_add_mul_ediv n a
  have h2:=Int.emod_add_mul_ediv (n / a) b
  have h3:=Int.emod_nonneg n (Int.ne_of_gt ha); have h4:=Int.emod_lt_of_pos n ha
  have h5:=Int.emod_nonneg (n / a) (Int.ne_of_gt hb); have h6:=Int.emod_lt_of_pos (n / a) hb
  have e:n=(n % a + a * ((n / a) % b)) + (a * b) * (n / a / b):=by
    rw [Int.mul_assoc,Int.add_assoc,← Int.mul_add,h2,h1]
  have hlt:n % a + a * ((n / a) % b) < a * b:=by
    have:a * ((n / a) % b) ≤ a * (b - 1):=Int.mul_le_mul_of_nonneg_left (by omega) (by omega)
    rw [Int.mul_sub,Int.mul_one] at this
    omega
  have hnn:0 ≤ n % a + a * ((n / a) % b):=Int.add_nonneg h3 (Int.mul_nonneg (by omega) h5)
  conv=>lhs; rw [e,Int.add_mul_emod_self_left]
  exact Int.emod_eq_of_lt hnn hlt
theorem leN_leB:∀ w n,(leN (leB w n):Int)=n % (256 ^ w:Nat)
  | 0,n=>by simp [leB,leN]
  | w + 1,n=>by
    have h:=leN_leB w (n / 256)
    have h0:(n % 256).toNat < 256:=by omega
    simp only [leB,leN,ofNat_toNat _ h0]
    generalize leN (leB w (n / 256))=a at h ⊢
    rw [Nat.pow_succ]
    generalize hM:256 ^ w=M at h ⊢
    have hp:0 < M:=by rw [← hM]; exact Nat.pow_pos (by omega)
    have e:n % ((M * 256:Nat):Int)=n % 256 + 256 * ((n / 256) % (M:Int)):=by
      rw [show ((M * 256:Nat):Int)=256 * (M:Int) by rw [Int.natCast_mul]; exact Int.mul_comm _ _]
      exact emod_mul2 n 256 M (by omega) (by omega)
    rw [e]
    omega
def sg (w u:Nat):Int:=if 2 * u < 256 ^ w then (u:Int) else (u:Int) - (256 ^ w:Nat)
def fits (w:Nat) (n:Int):Prop:=-((256 ^ w:Nat):Int) ≤ 2 * n∧2 * n < ((256 ^ w:Nat):Int)
theorem sg_fits (w u:Nat) (h:u < 256 ^ w):fits w (sg w u):=by
  unfold sg fits
  generalize 256 ^ w=M at *
  split <;> omega
theorem sg_le (w:Nat) (n:Int) (h:fits w n):sg w (leN (leB w n))=n:=by
  have h1:=leN_leB w n
  unfold sg; unfold fits at h
  generalize 256 ^ w=M at *
  generalize leN (leB w n)=a at *
  have h2:(a:Int) < M:=by rw [h1]; exact Int.emod_lt_of_pos _ (by omega)
  by_cases hn:0 ≤ n
  · have:n % (M:Int)=n:=Int.emod_eq_of_lt hn (by omega)
    split <;> omega
  · have:n % (M:Int)=n + M:=by
      have h3:(n + M) % (M:Int)=n + M:=Int.emod_eq_of_lt (by omega) (by omega)
      rw [← h3]; simp
    split <;> omega
theorem le_sg (w:Nat) (l:List UInt8) (h:l.length=w):leB w (sg w (leN l))=l:=by
  have hl:=leN_lt l
  rw [h] at hl
  refine leN_inj _ _ (by rw [leB_len,h]) ?_
  have h1:=leN_leB w (sg w (leN l))
  unfold sg at h1 ⊢
  generalize hM:256 ^ w=M at *
  generalize hA:leN l=a at *
  by_cases hc:2 * a < M
  · simp only [hc,if_true] at h1 ⊢
    rw [Int.emod_eq_of_lt (by omega) (by omega)] at h1
    omega
  · simp only [hc,if_false] at h1 ⊢
    have:((a:Int) - M) % (M:Int)=a:=by
      rw [Int.sub_emod_right]
      exact Int.emod_eq_of_lt (by omega) (by omega)
    omega
theorem leB_nat (w n:Nat) (h:n < 256 ^ w):leN (leB w n)=n:=by
  have:=leN_leB w n
  rw [Int.emod_eq_of_lt (by omega) (by omega)] at this
  omega

structure Item where
  txt:List UInt8
  num:Int
  isN:Bool
def numI (n:Int):Item:=⟨[],n,true⟩
def txtI (s:List UInt8):Item:=⟨s,0,false⟩
def itemOf (v:List UInt8):Item:=match numberOf v with
  | some n=>numI n
  | none=>txtI v
def val (it:Item):List UInt8:=if it.isN then Go.Lib.itoa it.num else it.txt
def I64 (n:Int):Prop:=-9223372036854775808 ≤ n∧n ≤ 9223372036854775807
def Wf (it:Item):Prop:=(it.isN=true∧it.txt=[]∧I64 it.num) ∨ (it.isN=false∧it.num=0∧numberOf it.txt=none∧it.txt.length ≤ 524288)
theorem dig19:∀ (k u:Nat),u < 10 ^ k → Go.Lib.nDigits u ≤ max 1 k
  | 0,u,h=>by rw [Go.Lib.nDigits_small (by omega)]; omega
  | k + 1,u,h=>by
    by_cases hu:u < 10
    · rw [Go.Lib.nDigits_small hu]; omega
    · rw [Go.Lib.nDigits_big hu]
      have:=dig19 k (u / 10) (by rw [Nat.pow_succ] at h; omega)
      rcases k with _ | k
      · simp at h; omega
      · omega
theorem itoa_short (n:Int) (h:I64 n):(Go.Lib.itoa n).length ≤ 20:=by
  obtain ⟨h0,h1⟩:=h
  by_cases hn:n < 0
  · obtain ⟨u,hu⟩:∃ u:Nat,n=-(u:Int):=⟨n.natAbs,by omega⟩
    subst hu
    rw [Go.Lib.itoa_neg u (by omega),List.length_cons,Go.Lib.decDigits_length]
    have:=dig19 19 u (by omega)
    omega
  · obtain ⟨u,hu⟩:∃ u:Nat,n=(u:Int):=⟨n.toNat,by omega⟩
    subst hu
    rw [Go.Lib.itoa_nonneg,Go.Lib.decDigits_length]
    have:=Go.Lib.nDigits_le20 u (by omega)
    omega
theorem itemOf_wf (v:List UInt8) (h:v.length ≤ 524288):Wf (itemOf v):=by
  unfold itemOf
  cases hn:numberOf v with
  | some n=>exact Or.inl ⟨rfl,rfl,(numberOf_some hn).2.1,(numberOf_some hn).2.2.1⟩
  | none=>exact Or.inr ⟨rfl,rfl,hn,h⟩
theorem val_itemOf (v:List UInt8):val (itemOf v)=v:=by
  unfold itemOf
  cases hn:numberOf v with
  | some n=>exact (numberOf_some hn).1
  | none=>rfl
theorem itemOf_val (it:Item) (h:Wf it):itemOf (val it)=it:=by
  obtain ⟨t,n,b⟩:=it
  rcases h with ⟨rfl,rfl,h1⟩ | ⟨rfl,rfl,h1,_⟩
  · simp only [val,if_true]
    unfold itemOf; rw [numberOf_itoa n h1.1 h1.2]; rfl
  · simp only [val]
    unfold itemOf; simp only [Bool.false_eq_true,if_false]
    rw [show numberOf t=none from h1]; rfl
theorem val_len (it:Item) (h:Wf it):(val it).length ≤ 524288:=by
  rcases h with ⟨h1,h2,h3⟩ | ⟨h1,h2,h3,h4⟩
  · unfold val; rw [h1]; have:=itoa_short _ h3; simp; omega
  · unfold val; rw [h1]; simpa using h4
def nsize (n:Int):Nat:=
  if 0 ≤ n∧n ≤ 127 then 1 else if -4096 ≤ n∧n ≤ 4095 then 2 else if -32768 ≤ n∧n ≤ 32767 then 3
  else if -8388608 ≤ n∧n ≤ 8388607 then 4 else if -2147483648 ≤ n∧n ≤ 2147483647 then 5 else 9
def thead (l:Nat):Nat:=if l ≤ 63 then 1 else if l ≤ 4095 then 2 else 5
def dsize (it:Item):Nat:=if it.isN then nsize it.num else thead it.txt.length + it.txt.length
def ndata (n:Int):List UInt8:=
  if 0 ≤ n∧n ≤ 127 then [UInt8.ofNat n.toNat] else if -4096 ≤ n∧n ≤ 4095 then [UInt8.ofNat (192 + (n % 8192 / 256).toNat),UInt8.ofNat (n % 256).toNat]
  else if -32768 ≤ n∧n ≤ 32767 then 241 :: leB 2 n else if -8388608 ≤ n∧n ≤ 8388607 then 242 :: leB 3 n
  else if -2147483648 ≤ n∧n ≤ 2147483647 then 243 :: leB 4 n else 244 :: leB 8 n
def tdata (t:List UInt8):List UInt8:=
  if t.length ≤ 63 then UInt8.ofNat (128 + t.length) :: t else if t.length ≤ 4095 then UInt8.ofNat (224 + t.length / 256) :: UInt8.ofNat (t.length % 256) :: t
  else 240 :: (leB 4 (t.length:Nat) ++ t)
def data (it:Item):List UInt8:=if it.isN then ndata it.num else tdata it.txt
theorem ndata_len (n:Int):(ndata n).length=nsize n:=by
  unfold ndata nsize; split <;> (try rfl); split <;> (try rfl); split <;> (try simp [leB_len]); split <;> (try simp [leB_len]); split <;> simp [leB_len]
theorem tdata_len (t:List UInt8):(tdata t).length=thead t.length + t.length:=by
  unfold tdata thead; split
  · simp; omega
  · split
    · simp; omega
    · simp [leB_len]; omega
theorem data_len (it:Item):(data it).length=dsize it:=by
  unfold data dsize; split
  · exact ndata_len _
  · exact tdata_len _
theorem dsize_pos (it:Item):1 ≤ dsize it:=by
  unfold dsize nsize thead; (repeat' split) <;> omega
theorem dsize_le (it:Item) (h:Wf it):dsize it ≤ 524293:=by
  rcases h with ⟨h1,h2,h3⟩ | ⟨h1,h2,h3,h4⟩
  · unfold dsize nsize; rw [h1]; simp only [if_true]; (repeat' split) <;> omega
  · unfold dsize thead; rw [h1]; simp only [Bool.false_eq_true,if_false]; (repeat' split) <;> omega

/-! reading. -/
def s13 (u:Nat):Int:=if u % 8192 < 4096 then ((u % 8192:Nat):Int) else ((u % 8192:Nat):Int) - 8192
def txtAt (s:List UInt8) (h L:Nat):Option (Item × Nat):=if h + L ≤ s.length then some (txtI ((s.drop h).take L),h + L) else none
def numAt (s:List UInt8) (k:Nat):Option (Item × Nat):=if 1 + k ≤ s.length then some (numI (sg k (leN ((s.drop 1).take k))),1 + k) else none
def rdF (f:Nat) (s:List UInt8):Option (Item × Nat):=
  if f < 128 then some (numI f,1)
  else if f < 192 then txtAt s 1 (f - 128)
  else if f < 224 then (if 2 ≤ s.length then some (numI (s13 (f * 256 + (s.getD 1 0).toNat)),2) else none)
  else if f < 240 then (if 2 ≤ s.length then txtAt s 2 ((f * 256 + (s.getD 1 0).toNat) % 4096) else none)
  else if f=240 then (if 5 ≤ s.length then txtAt s 5 (leN ((s.drop 1).take 4)) else none)
  else if f=241 then numAt s 2 else if f=242 then numAt s 3 else if f=243 then numAt s 4 else if f=244 then numAt s 8
  else none
def rdItem (s:List UInt8):Option (Item × Nat):=match s with
  | []=>none
  | b :: _=>rdF b.toNat s
theorem rdItem_cons (b:UInt8) (t:List UInt8):rdItem (b :: t)=rdF b.toNat (b :: t):=rfl
theorem txtAt_app (h t r:List UInt8):txtAt (h ++ (t ++ r)) h.length t.length=some (txtI t,h.length + t.length):=by
  unfold txtAt
  rw [if_pos (by simp only [List.length_append]; omega),List.drop_left,List.take_left]
theorem numAt_app (b:UInt8) (k:Nat) (n:Int) (r:List UInt8) (h:fits k n):numAt (b :: (leB k n ++ r)) k=some (numI n,1 + k):=by
  unfold numAt
  rw [if_pos (by simp only [List.length_cons,List.length_append,leB_len]; omega)]
  simp only [List.drop_succ_cons,List.drop_zero]
  rw [List.take_left' (leB_len k n),sg_le k n h]
theorem rd_num (n:Int) (h:I64 n) (r:List UInt8):rdItem (ndata n ++ r)=some (numI n,nsize n):=by
  unfold ndata nsize
  obtain ⟨h0,h1⟩:=h
  split
  · rename_i hc
    show rdF (UInt8.ofNat n.toNat).toNat _=_
    rw [ofNat_toNat _ (by omega)]
    unfold rdF
    rw [if_pos (by omega),show ((n.toNat:Nat):Int)=n by omega]
  split
  · rename_i hc hd
    show rdF (UInt8.ofNat (192 + (n % 8192 / 256).toNat)).toNat _=_
    rw [ofNat_toNat _ (by omega)]
    unfold rdF
    rw [if_neg (by omega),if_neg (by omega),if_pos (by omega),if_pos (by simp)]
    congr 2
    have e:(List.getD ([UInt8.ofNat (192 + (n % 8192 / 256).toNat),UInt8.ofNat (n % 256).toNat] ++ r) 1 0)=UInt8.ofNat (n % 256).toNat:=rfl
    rw [e,ofNat_toNat _ (by omega)]
    unfold s13
    congr 1
    split <;> omega
  split
  · show rdF 241 _=_
    unfold rdF
    rw [if_neg (by omega),if_neg (by omega),if_neg (by omega),if_neg (by omega),if_neg (by omega),if_pos rfl]
    exact numAt_app 241 2 n r (by unfold fits; omega)
  split
  · show rdF 242 _=_
    unfold rdF
    rw [if_neg (by omega),if_neg (by omega),if_neg (by omega),if_neg (by omega),if_neg (by omega),if_neg (by omega),if_pos rfl]
    exact numAt_app 242 3 n r (by unfold fits; omega)
  split
  · show rdF 243 _=_
    unfold rdF
    rw [if_neg (by omega),if_neg (by omega),if_neg (by omega),if_neg (by omega),if_neg (by omega),if_neg (by omega),if_neg (by omega),if_pos rfl]
    exact numAt_app 243 4 n r (by unfold fits; omega)
  · show rdF 244 _=_
    unfold rdF
    rw [if_neg (by omega),if_neg (by omega),if_neg (by omega),if_neg (by omega),if_neg (by omega),if_neg (by omega),if_neg (by omega),if_neg (by omega),if_pos rfl]
    exact numAt_app 244 8 n r (by unfold fits; omega)
theorem rd_txt (t:List UInt8) (h:t.length ≤ 524288) (r:List UInt8):rdItem (tdata t ++ r)=some (txtI t,thead t.length + t.length):=by
  unfold tdata thead
  split
  · rename_i hc
    show rdF (UInt8.ofNat (128 + t.length)).toNat _=_
    rw [ofNat_toNat _ (by omega)]
    unfold rdF
    rw [if_neg (by omega),if_pos (by omega),show 128 + t.length - 128=t.length by omega]
    exact txtAt_app [UInt8.ofNat (128 + t.length)] t r
  split
  · rename_i hc hd
    show rdF (UInt8.ofNat (224 + t.length / 256)).toNat _=_
    rw [ofNat_toNat _ (by omega)]
    unfold rdF
    rw [if_neg (by omega),if_neg (by omega),if_neg (by omega),if_pos (by omega),if_pos (by simp)]
    have e:(List.getD (UInt8.ofNat (224 + t.length / 256) :: UInt8.ofNat (t.length % 256) :: t ++ r) 1 0)=UInt8.ofNat (t.length % 256):=rfl
    rw [e,ofNat_toNat _ (by omega),show ((224 + t.length / 256) * 256 + t.length % 256) % 4096=t.length by omega]
    exact txtAt_app [UInt8.ofNat (224 + t.length / 256),UInt8.ofNat (t.length % 256)] t r
  · rename_i hc hd
    show rdF 240 _=_
    unfold rdF
    rw [if_neg (by omega),if_neg (by omega),if_neg (by omega),if_neg (by omega),if_pos rfl,if_pos (by simp [leB_len])]
    have e:((240 :: (leB 4 (t.length:Nat) ++ t) ++ r:List UInt8).drop 1).take 4=leB 4 (t.length:Nat):=by
      simp only [List.cons_append,List.drop_succ_cons,List.drop_zero,List.append_assoc]
      rw [List.take_left' (leB_len _ _)]
    rw [e,leB_nat _ _ (by omega)]
    have:=txtAt_app (240 :: leB 4 (t.length:Nat)) t r
    simpa [leB_len] using this
theorem rd_data (it:Item) (h:Wf it) (r:List UInt8):rdItem (data it ++ r)=some (it,dsize it):=by
  obtain ⟨t,n,b⟩:=it
  rcases h with ⟨h1,h2,h3⟩ | ⟨h1,h2,h3,h4⟩
  · simp only at h1 h2 h3; subst h1; subst h2
    exact rd_num n h3 r
  · simp only at h1 h2 h3 h4; subst h1; subst h2
    exact rd_txt t h4 r
end Go.Proofs.YtijambehfobopaaGreatDoor.LM
set_option linter.unusedVariables false
namespace Go.Proofs.YtijambehfobopaaGreatDoor.LM
open Go.Proofs.Vi
/-! what is read,in its one form,is what is written. -/
theorem txtAt_some {s:List UInt8} {h L:Nat} {it:Item} {n:Nat} (e:txtAt s h L=some (it,n)):h + L ≤ s.length∧it=txtI ((s.drop h).take L)∧n=h + L:=by
  unfold txtAt at e; split at e
  · rename_i hc
    have:=Option.some.inj e
    exact ⟨hc,(congrArg Prod.fst this).symm,(congrArg Prod.snd this).symm⟩
  · cases e
theorem numAt_some {s:List UInt8} {k:Nat} {it:Item} {n:Nat} (e:numAt s k=some (it,n)):1 + k ≤ s.length∧it=numI (sg k (leN ((s.drop 1).take k)))∧n=1 + k:=by
  unfold numAt at e; split at e
  · rename_i hc
    have:=Option.some.inj e
    exact ⟨hc,(congrArg Prod.fst this).symm,(congrArg Prod.snd this).symm⟩
  · cases e
theorem take_cons1 (b:UInt8) (t:List UInt8) (k:Nat):(b :: t).take (1 + k)=b :: t.take k:=by rw [Nat.add_comm]; rfl
theorem u8_of (b:UInt8) (k:Nat) (h:b.toNat=k):b=UInt8.ofNat k:=by
  apply UInt8.toNat_inj.1; rw [h,ofNat_toNat]; rw [← h]; exact b.toNat_lt
theorem num_inv (b:UInt8) (t:List UInt8) (k:Nat) (it:Item) (n:Nat) (e:numAt (b :: t) k=some (it,n)) :
    n ≤ (b :: t).length∧it=numI it.num∧fits k it.num∧(b :: t).take n=b :: leB k it.num∧n=1 + k:=by
  obtain ⟨h1,h2,h3⟩:=numAt_some e
  simp only [List.drop_succ_cons,List.drop_zero,List.length_cons] at h1 h2
  have hl:(t.take k).length=k:=by rw [List.length_take]; omega
  have hn:it.num=sg k (leN (t.take k)):=by rw [h2]; rfl
  refine ⟨by rw [h3,List.length_cons]; omega,by rw [hn]; exact h2,?_,?_,h3⟩
  · rw [hn]; exact sg_fits _ _ (by have:=leN_lt (t.take k); rwa [hl] at this)
  · rw [h3,take_cons1,hn,le_sg k _ hl]
theorem one_form (s:List UInt8) (it:Item) (n:Nat) (e:rdItem s=some (it,n)) (hs:dsize it=n) (hl:it.txt.length ≤ 524288) (hn:numberOf it.txt=none) :
    n ≤ s.length∧Wf it∧s.take n=data it:=by
  cases s with
  | nil=>cases e
  | cons b t =>
    have hb:=b.toNat_lt
    rw [rdItem_cons] at e
    unfold rdF at e
    split at e
    · rename_i h1
      have e':=Option.some.inj e
      have e1:it=numI b.toNat:=(congrArg Prod.fst e').symm
      have e2:n=1:=(congrArg Prod.snd e').symm
      subst e1; subst e2
      refine ⟨by simp,Or.inl ⟨rfl,rfl,?_⟩,?_⟩
      · unfold I64 numI; simp only; omega
      · show [b]=ndata (b.toNat:Int)
        unfold ndata
        rw [if_pos ⟨by omega,by omega⟩,Int.toNat_natCast,← u8_of b _ rfl]
    split at e
    · rename_i h1 h2
      obtain ⟨g1,g2,g3⟩:=txtAt_some e
      simp only [List.drop_succ_cons,List.drop_zero,List.length_cons] at g1 g2
      have hL:(t.take (b.toNat - 128)).length=b.toNat - 128:=by rw [List.length_take]; omega
      subst g2
      refine ⟨by rw [g3,List.length_cons]; omega,Or.inr ⟨rfl,rfl,hn,hl⟩,?_⟩
      rw [g3,take_cons1]
      generalize t.take (b.toNat - 128)=q at *
      rw [show data (txtI q)=tdata q from rfl]
      unfold tdata
      rw [if_pos (by omega),hL,← u8_of b _ (by omega)]
    split at e
    · split at e
      · rename_i h1 h2 h3 h4
        have e':=Option.some.inj e
        have e1:=(congrArg Prod.fst e').symm
        have e2:n=2:=(congrArg Prod.snd e').symm
        simp only at e1
        subst e1; subst e2
        cases t with
        | nil=>simp at h4
        | cons c t =>
          have hc:=c.toNat_lt
          simp only [List.getD_cons_succ,List.getD_cons_zero] at hs ⊢
          have hs':nsize (s13 (b.toNat * 256 + c.toNat))=2:=hs
          have hr:-4096 ≤ s13 (b.toNat * 256 + c.toNat)∧s13 (b.toNat * 256 + c.toNat) ≤ 4095:=by unfold s13; split <;> omega
          refine ⟨by simp,Or.inl ⟨rfl,rfl,?_⟩,?_⟩
          · unfold I64 numI; simp only; omega
          · show [b,c]=ndata (s13 (b.toNat * 256 + c.toNat))
            have h0:¬ (0 ≤ s13 (b.toNat * 256 + c.toNat)∧s13 (b.toNat * 256 + c.toNat) ≤ 127):=by
              intro h; unfold nsize at hs'; rw [if_pos h] at hs'; omega
            unfold ndata
            rw [if_neg h0,if_pos hr]
            have k1:(s13 (b.toNat * 256 + c.toNat) % 8192 / 256).toNat=b.toNat - 192:=by unfold s13; split <;> omega
            have k2:(s13 (b.toNat * 256 + c.toNat) % 256).toNat=c.toNat:=by unfold s13; split <;> omega
            rw [k1,k2,← u8_of b _ (by omega),← u8_of c _ rfl]
      · cases e
    split at e
    · split at e
      · rename_i h1 h2 h3 h4 h5
        cases t with
        | nil=>simp at h5
        | cons c t =>
          have hc:=c.toNat_lt
          simp only [List.getD_cons_succ,List.getD_cons_zero] at e
          obtain ⟨g1,g2,g3⟩:=txtAt_some e
          generalize hL:(b.toNat * 256 + c.toNat) % 4096=L at *
          simp only [List.drop_succ_cons,List.drop_zero,List.length_cons] at g1 g2
          have hk:(t.take L).length=L:=by rw [List.length_take]; omega
          subst g2
          have hs':thead (t.take L).length + (t.take L).length=n:=hs
          rw [hk] at hs'
          have hL2:¬ L ≤ 63:=by intro h; unfold thead at hs'; rw [if_pos h] at hs'; omega
          refine ⟨by rw [g3,List.length_cons,List.length_cons]; omega,Or.inr ⟨rfl,rfl,hn,hl⟩,?_⟩
          rw [g3,show 2 + L=L + 1 + 1 by omega]
          simp only [List.take_succ_cons]
          generalize t.take L=q at *
          rw [show data (txtI q)=tdata q from rfl]
          unfold tdata
          rw [if_neg (by omega),if_pos (by omega),hk,← u8_of b _ (by omega),← u8_of c _ (by omega)]
      · cases e
    split at e
    · split at e
      · rename_i h1 h2 h3 h4 h5 h6
        simp only [List.drop_succ_cons,List.drop_zero,List.length_cons] at e h6
        have h4l:(t.take 4).length=4:=by rw [List.length_take]; omega
        have hlt:=leN_lt (t.take 4)
        rw [h4l] at hlt
        obtain ⟨g1,g2,g3⟩:=txtAt_some e
        have hq:leB 4 ((leN (t.take 4):Nat):Int)=t.take 4:=by
          refine leN_inj _ _ (by rw [leB_len,h4l]) ?_
          rw [leB_nat _ _ hlt]
        generalize hL:leN (t.take 4)=L at *
        simp only [List.drop_succ_cons,List.length_cons] at g1 g2
        have hk:((t.drop 4).take L).length=L:=by rw [List.length_take,List.length_drop]; omega
        subst g2
        have hs':thead ((t.drop 4).take L).length + ((t.drop 4).take L).length=n:=hs
        rw [hk] at hs'
        have hL2:¬ L ≤ 63:=by intro h; unfold thead at hs'; rw [if_pos h] at hs'; omega
        have hL3:¬ L ≤ 4095:=by intro h; unfold thead at hs'; rw [if_neg hL2,if_pos h] at hs'; omega
        refine ⟨by rw [g3,List.length_cons]; omega,Or.inr ⟨rfl,rfl,hn,hl⟩,?_⟩
        rw [g3,show 5 + L=1 + (4 + L) by omega,take_cons1,List.take_add]
        rw [show data (txtI ((t.drop 4).take L))=tdata ((t.drop 4).take L) from rfl]
        unfold tdata
        rw [if_neg (by omega),if_neg (by omega),hk,hq,u8_of b 240 h5]
        rfl
      · cases e
    have fin:∀ (k:Nat) (hd:UInt8),b=hd → numAt (b :: t) k=some (it,n) → (∀ m:Int,fits k m → I64 m) → (∀ m:Int,fits k m → nsize m=1 + k → ndata m=hd :: leB k m) →
        n ≤ (b :: t).length∧Wf it∧(b :: t).take n=data it:=by
      intro k hd hbd he h64 hdat
      obtain ⟨g1,g2,g3,g4,g5⟩:=num_inv b t k it n he
      refine ⟨g1,Or.inl ⟨by rw [g2]; rfl,by rw [g2]; rfl,h64 _ g3⟩,?_⟩
      rw [g4]
      have hs':nsize it.num=1 + k:=by rw [g2] at hs; rw [← g5]; exact hs
      rw [show data it=ndata it.num by rw [g2]; rfl,hdat _ g3 hs',hbd]
    split at e
    · rename_i hf
      refine fin 2 241 (u8_of b 241 hf) e (fun m hm=>by unfold fits at hm; unfold I64; omega) (fun m hm hz=>?_)
      unfold nsize at hz; unfold fits at hm
      have c1:¬ (0 ≤ m∧m ≤ 127):=fun h=>by rw [if_pos h] at hz; omega
      have c2:¬ (-4096 ≤ m∧m ≤ 4095):=fun h=>by rw [if_neg c1,if_pos h] at hz; omega
      unfold ndata; rw [if_neg c1,if_neg c2,if_pos (by omega)]
    split at e
    · rename_i hf
      refine fin 3 242 (u8_of b 242 hf) e (fun m hm=>by unfold fits at hm; unfold I64; omega) (fun m hm hz=>?_)
      unfold nsize at hz; unfold fits at hm
      have c1:¬ (0 ≤ m∧m ≤ 127):=fun h=>by rw [if_pos h] at hz; omega
      have c2:¬ (-4096 ≤ m∧m ≤ 4095):=fun h=>by rw [if_neg c1,if_pos h] at hz; omega
      have c3:¬ (-32768 ≤ m∧m ≤ 32767):=fun h=>by rw [if_neg c1,if_neg c2,if_pos h] at hz; omega
      unfold ndata; rw [if_neg c1,if_neg c2,if_neg c3,if_pos (by omega)]
    split at e
    · rename_i hf
      refine fin 4 243 (u8_of b 243 hf) e (fun m hm=>by unfold fits at hm; unfold I64; omega) (fun m hm hz=>?_)
      unfold nsize at hz; unfold fits at hm
      have c1:¬ (0 ≤ m∧m ≤ 127):=fun h=>by rw [if_pos h] at hz; omega
      have c2:¬ (-4096 ≤ m∧m ≤ 4095):=fun h=>by rw [if_neg c1,if_pos h] at hz; omega
      have c3:¬ (-32768 ≤ m∧m ≤ 32767):=fun h=>by rw [if_neg c1,if_neg c2,if_pos h] at hz; omega
      have c4:¬ (-8388608 ≤ m∧m ≤ 8388607):=fun h=>by rw [if_neg c1,if_neg c2,if_neg c3,if_pos h] at hz; omega
      unfold ndata; rw [if_neg c1,if_neg c2,if_neg c3,if_neg c4,if_pos (by omega)]
    split at e
    · rename_i hf
      refine fin 8 244 (u8_of b 244 hf) e (fun m hm=>by unfold fits at hm; unfold I64; omega) (fun m hm hz=>?_)
      unfold nsize at hz; unfold fits at hm
      have c1:¬ (0 ≤ m∧m ≤ 127):=fun h=>by rw [if_pos h] at hz; omega
      have c2:¬ (-4096 ≤ m∧m ≤ 4095):=fun h=>by rw [if_neg c1,if_pos h] at hz; omega
      have c3:¬ (-32768 ≤ m∧m ≤ 32767):=fun h=>by rw [if_neg c1,if_neg c2,if_pos h] at hz; omega
      have c4:¬ (-8388608 ≤ m∧m ≤ 8388607):=fun h=>by rw [if_neg c1,if_neg c2,if_neg c3,if_pos h] at hz; omega
      have c5:¬ (-2147483648 ≤ m∧m ≤ 2147483647):=fun h=>by rw [if_neg c1,if_neg c2,if_neg c3,if_neg c4,if_pos h] at hz; omega
      unfold ndata; rw [if_neg c1,if_neg c2,if_neg c3,if_neg c4,if_neg c5]
    · cases e
theorem rd_span {s:List UInt8} {it:Item} {n:Nat} (e:rdItem s=some (it,n)):1 ≤ n∧n ≤ s.length:=by
  cases s with
  | nil=>cases e
  | cons b t =>
    rw [rdItem_cons] at e
    have ht:∀ {h L},1 ≤ h → txtAt (b :: t) h L=some (it,n) → 1 ≤ n∧n ≤ (b :: t).length:=fun hh e=>by
      obtain ⟨h1,_,h3⟩:=txtAt_some e; omega
    have hm:∀ {k},numAt (b :: t) k=some (it,n) → 1 ≤ n∧n ≤ (b :: t).length:=fun e=>by
      obtain ⟨h1,_,h3⟩:=numAt_some e; omega
    have hs:∀ {x:Item} {k:Nat},1 ≤ k → k ≤ (b :: t).length → some (x,k)=some (it,n) → 1 ≤ n∧n ≤ (b :: t).length:=fun h1 h2 e=>by
      have:=congrArg Prod.snd (Option.some.inj e); simp only at this; omega
    unfold rdF at e
    split at e
    · exact hs (Nat.le_refl _) (by simp) e
    split at e
    · exact ht (Nat.le_refl _) e
    split at e
    · split at e
      · exact hs (by decide) (by assumption) e
      · cases e
    split at e
    · split at e
      · exact ht (by decide) e
      · cases e
    split at e
    · split at e
      · exact ht (by decide) e
      · cases e
    split at e
    · exact hm e
    split at e
    · exact hm e
    split at e
    · exact hm e
    split at e
    · exact hm e
    · cases e

/-! back lengths. -/
def bsz (n:Nat):Nat:=if n < 128 then 1 else if n < 16384 then 2 else if n < 2097152 then 3 else if n < 268435456 then 4 else 5
def bbyte (n g i:Nat):UInt8:=UInt8.ofNat (n / 128 ^ (g - 1 - i) % 128 + if 0 < i then 128 else 0)
def back (n:Nat):List UInt8:=(List.range (bsz n)).map (bbyte n (bsz n))
theorem back_len (n:Nat):(back n).length=bsz n:=by simp [back]
theorem bsz_pos (n:Nat):1 ≤ bsz n:=by unfold bsz; (repeat' split) <;> omega
theorem bsz_le (n:Nat):bsz n ≤ 5:=by unfold bsz; (repeat' split) <;> omega
theorem bsz_le3 (n:Nat) (h:n < 2097152):bsz n ≤ 3:=by unfold bsz; (repeat' split) <;> omega
def ent (it:Item):List UInt8:=data it ++ back (dsize it)
def esz (it:Item):Nat:=dsize it + bsz (dsize it)
theorem ent_len (it:Item):(ent it).length=esz it:=by unfold ent esz; rw [List.length_append,data_len,back_len]
theorem esz_pos (it:Item):2 ≤ esz it:=by have:=dsize_pos it; have:=bsz_pos (dsize it); unfold esz; omega
theorem esz_le (it:Item) (h:Wf it):esz it ≤ 524296:=by have:=dsize_le it h; have:=bsz_le3 (dsize it) (by omega); unfold esz; omega
def bodyOf (l:List Item):List UInt8:=l.flatMap ent
theorem bodyOf_cons (it:Item) (l:List Item):bodyOf (it :: l)=ent it ++ bodyOf l:=by simp [bodyOf]
theorem bodyOf_app (a b:List Item):bodyOf (a ++ b)=bodyOf a ++ bodyOf b:=by simp [bodyOf]
def bsum (l:List Item):Nat:=(l.map esz).foldr (· + ·) 0
theorem bsum_cons (it:Item) (l:List Item):bsum (it :: l)=esz it + bsum l:=rfl
theorem bsum_nil:bsum []=0:=rfl
theorem bsum_app:∀ a b:List Item,bsum (a ++ b)=bsum a + bsum b
  | [],b=>by simp [bsum]
  | x :: a,b=>by rw [List.cons_append,bsum_cons,bsum_cons,bsum_app a b]; omega
theorem bodyOf_len:∀ l:List Item,(bodyOf l).length=bsum l
  | []=>rfl
  | x :: l=>by rw [bodyOf_cons,List.length_append,ent_len,bodyOf_len l,bsum_cons]
theorem bsum_ge:∀ l:List Item,2 * l.length ≤ bsum l
  | []=>by simp
  | x :: l=>by have:=bsum_ge l; have:=esz_pos x; rw [bsum_cons,List.length_cons]; omega

/-! the entries of a body. -/
structure Ent where
  place:Nat
  it:Item
  begin:Nat
  span:Nat
def esp (n:Nat):Nat:=n + bsz n
def parse:Nat → Nat → Nat → List UInt8 → List Ent × Bool
  | 0,_,_,_=>([],true)
  | k + 1,p,at_,s =>
    if s=[] then ([],false)
    else match rdItem s with
      | none=>([],true)
      | some (it,n)=>(⟨p,it,at_,n⟩ :: (parse k (p + 1) (at_ + esp n) (s.drop (esp n))).1,(parse k (p + 1) (at_ + esp n) (s.drop (esp n))).2)
theorem parse_nil (k p a:Nat):parse (k + 1) p a []=([],false):=by simp [parse]
theorem parse_none (k p a:Nat) {s:List UInt8} (hs:s ≠ []) (h:rdItem s=none):parse (k + 1) p a s=([],true):=by
  simp only [parse]; rw [if_neg hs,h]
theorem parse_some (k p a:Nat) {s:List UInt8} {it:Item} {n:Nat} (h:rdItem s=some (it,n)) :
    parse (k + 1) p a s=(⟨p,it,a,n⟩ :: (parse k (p + 1) (a + esp n) (s.drop (esp n))).1,(parse k (p + 1) (a + esp n) (s.drop (esp n))).2):=by
  have hs:s ≠ []:=by rintro rfl; cases h
  simp only [parse]; rw [if_neg hs,h]
def entsFrom:Nat → Nat → List Item → List Ent
  | _,_,[]=>[]
  | p,a,it :: l=>⟨p,it,a,dsize it⟩ :: entsFrom (p + 1) (a + esz it) l
theorem ents_items:∀ (l:List Item) (p a:Nat),(entsFrom p a l).map Ent.it=l
  | [],_,_=>rfl
  | x :: l,p,a=>by simp [entsFrom,ents_items l]
theorem ents_len:∀ (l:List Item) (p a:Nat),(entsFrom p a l).length=l.length
  | [],_,_=>rfl
  | x :: l,p,a=>by simp [entsFrom,ents_len l]
theorem parse_body:∀ (l:List Item) (k p a:Nat),(∀ it ∈ l,Wf it) → l.length < k → parse k p a (bodyOf l)=(entsFrom p a l,false)
  | [],k + 1,p,a,_,_=>by simp [bodyOf,parse,entsFrom]
  | x :: l,k + 1,p,a,hw,hk=>by
    have hx:=hw x (by simp)
    have hr:rdItem (bodyOf (x :: l))=some (x,dsize x):=by
      rw [bodyOf_cons]; unfold ent; rw [List.append_assoc]; exact rd_data x hx _
    rw [parse_some k p a hr]
    have hd:(bodyOf (x :: l)).drop (esp (dsize x))=bodyOf l:=by
      rw [bodyOf_cons]; exact List.drop_left' (ent_len x)
    rw [hd,show a + esp (dsize x)=a + esz x from rfl,parse_body l k (p + 1) (a + esz x) (fun it h=>hw it (by simp [h])) (by simpa using hk)]
    rfl
def okEnt (body:List UInt8) (e:Ent):Prop:=(dsize e.it=e.span∧e.it.txt.length ≤ 524288)∧numberOf e.it.txt=none∧(body.drop (e.begin + e.span)).take (bsz e.span)=back e.span
theorem body_parse (b:List UInt8):∀ (k p a:Nat) (s:List UInt8),s=b.drop a → (parse k p a s).2=false → (∀ e ∈ (parse k p a s).1,okEnt b e) →
    ∃ l:List Item,(∀ it ∈ l,Wf it)∧s=bodyOf l∧(parse k p a s).1=entsFrom p a l
  | 0,p,a,s,_,h,_=>by simp [parse] at h
  | k + 1,p,a,s,hs,h,hok=>by
    by_cases hn:s=[]
    · subst hn; exact ⟨[],by simp,by simp [bodyOf],by rw [parse_nil]; rfl⟩
    · cases hr:rdItem s with
      | none=>rw [parse_none k p a hn hr] at h; simp at h
      | some x =>
        obtain ⟨it,n⟩:=x
        rw [parse_some k p a hr] at h hok
        simp only at h hok
        have ho:=hok ⟨p,it,a,n⟩ (by simp)
        obtain ⟨⟨ho1,ho2⟩,ho3,ho4⟩:=ho
        simp only at ho1 ho2 ho3 ho4
        obtain ⟨q1,q2,q3⟩:=one_form s it n hr ho1 ho2 ho3
        have hb:(s.drop n).take (bsz n)=back n:=by rw [hs,List.drop_drop]; exact ho4
        obtain ⟨l,i1,i2,i3⟩:=body_parse b k (p + 1) (a + esp n) (s.drop (esp n)) (by rw [hs,List.drop_drop]) h (fun e he=>hok e (by simp [he]))
        refine ⟨it :: l,?_,?_,?_⟩
        · intro x hx; rcases List.mem_cons.1 hx with rfl | hx
          · exact q2
          · exact i1 x hx
        · rw [bodyOf_cons,← i2]
          have:ent it=s.take (esp n):=by
            unfold ent esp; rw [List.take_add,q3,hb,ho1]
          rw [this,List.take_append_drop]
        · rw [parse_some k p a hr]; simp only [entsFrom]
          rw [i3,ho1]; unfold esz esp; rw [ho1]
theorem ents_ok (body:List UInt8):∀ (l:List Item) (p a:Nat),(∀ it ∈ l,Wf it) → body.drop a=bodyOf l → ∀ e ∈ entsFrom p a l,okEnt body e
  | [],p,a,_,_,e,he=>by simp [entsFrom] at he
  | x :: l,p,a,hw,hb,e,he=>by
    have hx:=hw x (by simp)
    rcases List.mem_cons.1 he with rfl | he
    · refine ⟨⟨rfl,?_⟩,?_,?_⟩
      · rcases hx with ⟨_,h,_⟩ | ⟨_,_,_,h⟩
        · show x.txt.length ≤ _; rw [h]; simp
        · exact h
      · rcases hx with ⟨_,h,_⟩ | ⟨_,_,h,_⟩
        · show numberOf x.txt=none; rw [h]; decide +kernel
        · exact h
      · show (body.drop (a + dsize x)).take (bsz (dsize x))=_
        rw [← List.drop_drop,hb,bodyOf_cons]; unfold ent
        rw [List.append_assoc,List.drop_left' (data_len x),List.take_left' (back_len _)]
    · refine ents_ok body l (p + 1) (a + esz x) (fun it h=>hw it (by simp [h])) ?_ e he
      rw [← List.drop_drop,hb,bodyOf_cons,List.drop_left' (ent_len x)]

/-! the listpack of these items. -/
def build (l:List Item):List UInt8:=leB 4 ((7 + bsum l:Nat):Int) ++ (leB 2 ((min l.length 65535:Nat):Int) ++ (bodyOf l ++ [255]))
theorem build_len (l:List Item):(build l).length=7 + bsum l:=by
  unfold build; simp only [List.length_append,leB_len,bodyOf_len,List.length_cons,List.length_nil]; omega
structure Pk (p:List UInt8) (l:List Item):Prop where
  wf:∀ it ∈ l,Wf it
  len:l.length ≤ 1048576
  eq:p=build l
  size:p.length ≤ 1073741824
def bod (p:List UInt8):List UInt8:=(p.drop 6).take (p.length - 7)
theorem build_body (l:List Item):bod (build l)=bodyOf l:=by
  unfold bod; rw [build_len]
  have e:(build l).drop 6=bodyOf l ++ [255]:=by
    unfold build; rw [← List.append_assoc,List.drop_left' (by simp [leB_len])]
  rw [e,List.take_left' (by rw [bodyOf_len]; omega)]
theorem Pk.ents {p l} (h:Pk p l):parse (p.length + 1) 0 0 (bod p)=(entsFrom 0 0 l,false):=by
  have:=bsum_ge l
  have hl:=h.size
  rw [h.eq,build_body,build_len]
  exact parse_body l _ 0 0 h.wf (by omega)
theorem Pk.uniq {p l m} (h:Pk p l) (h':Pk p m):l=m:=by
  have:=h.ents.symm.trans h'.ents
  have:=congrArg Prod.fst this
  simp only at this
  rw [← ents_items l 0 0,this,ents_items]
structure Reads (p:List UInt8):Prop where
  len7:7 ≤ p.length
  size:p.length ≤ 1073741824
  last:p.getD (p.length - 1) 0=255
  head:leN (p.take 4)=p.length
  ok:(parse (p.length + 1) 0 0 (bod p)).2=false
  one:∀ e ∈ (parse (p.length + 1) 0 0 (bod p)).1,okEnt (bod p) e
  many:(parse (p.length + 1) 0 0 (bod p)).1.length ≤ 1048576
  cnt:leN ((p.drop 4).take 2)=min (parse (p.length + 1) 0 0 (bod p)).1.length 65535
theorem Pk.reads {p l} (h:Pk p l):Reads p:=by
  have he:=h.ents
  have hw:=h.wf
  have hs:=h.size
  have hsum:7 + bsum l ≤ 1073741824:=by rw [← build_len,← h.eq]; exact hs
  have hlen:p.length=7 + bsum l:=by rw [h.eq,build_len]
  refine ⟨by omega,hs,?_,?_,by rw [he],?_,by rw [he]; simpa [ents_len] using h.len,?_⟩
  · have e:build l=(leB 4 ((7 + bsum l:Nat):Int) ++ (leB 2 ((min l.length 65535:Nat):Int) ++ bodyOf l)) ++ [255]:=by simp [build]
    rw [hlen,h.eq,e,List.getD_eq_getElem?_getD,List.getElem?_append_right (by simp [leB_len,bodyOf_len]; omega)]
    have:7 + bsum l - 1 - (leB 4 ((7 + bsum l:Nat):Int) ++ (leB 2 ((min l.length 65535:Nat):Int) ++ bodyOf l)).length=0:=by
      simp only [List.length_append,leB_len,bodyOf_len]; omega
    rw [this]; rfl
  · rw [hlen,h.eq]; unfold build; rw [List.take_left' (leB_len _ _),leB_nat _ _ (by omega)]
  · rw [he,h.eq,build_body]; exact ents_ok _ l 0 0 hw (by simp)
  · rw [he,h.eq]; unfold build
    rw [List.drop_left' (leB_len _ _),List.take_left' (leB_len _ _),leB_nat _ _ (by omega)]
    simp [ents_len]
theorem Reads.pk {p} (h:Reads p):∃ l,Pk p l∧(parse (p.length + 1) 0 0 (bod p)).1=entsFrom 0 0 l:=by
  obtain ⟨l,h1,h2,h3⟩:=body_parse (bod p) (p.length + 1) 0 0 (bod p) (by simp) h.ok h.one
  refine ⟨l,⟨h1,?_,?_,h.size⟩,h3⟩
  · have:=h.many; rw [h3,ents_len] at this; exact this
  · have h7:=h.len7; have hs:=h.size
    have e0:p=p.take 4 ++ ((p.drop 4).take 2 ++ (bod p ++ [255])):=by
      have e1:p.drop 6=bod p ++ [255]:=by
        have e2:p.drop 6=(p.drop 6).take (p.length - 7) ++ (p.drop 6).drop (p.length - 7):=(List.take_append_drop _ _).symm
        have e3:(p.drop 6).drop (p.length - 7)=[255]:=by
          rw [List.drop_drop,show 6 + (p.length - 7)=p.length - 1 by omega]
          have hl:=h.last
          rw [List.drop_eq_getElem_cons (by omega),List.drop_eq_nil_of_le (by omega)]
          rw [List.getD_eq_getElem?_getD,List.getElem?_eq_getElem (by omega)] at hl
          simp only [Option.getD_some] at hl
          rw [hl]
        rw [e3] at e2
        exact e2
      conv=>lhs; rw [← List.take_append_drop 4 p,← List.take_append_drop 2 (p.drop 4),List.drop_drop,e1]
    have hlen:p.length=7 + bsum l:=by
      have:=congrArg List.length e0
      rw [h2] at this
      simp only [List.length_append,List.length_take,List.length_drop,bodyOf_len,List.length_cons,List.length_nil] at this
      omega
    unfold build
    rw [← h2]
    conv=>lhs; rw [e0]
    have k1:leB 4 ((7 + bsum l:Nat):Int)=p.take 4:=by
      refine leN_inj _ _ (by rw [leB_len,List.length_take]; omega) ?_
      rw [leB_nat _ _ (by omega),h.head,hlen]
    have k2:leB 2 ((min l.length 65535:Nat):Int)=(p.drop 4).take 2:=by
      refine leN_inj _ _ (by rw [leB_len,List.length_take,List.length_drop]; omega) ?_
      rw [leB_nat _ _ (by omega),h.cnt,h3,ents_len]
    rw [k1,k2]
end Go.Proofs.YtijambehfobopaaGreatDoor.LM
