import Derived.Test.YtiefeeoellagnaaGreatDoorProg
import Derived.WalkKit
import Derived.WalkSpells
import Derived.WalkLawsBesides
import Derived.Handy
import Derived.Laws.BytesArg
import Derived.Laws.IdiomStrings
import Derived.Lib.AppendStr
import Derived.Deep.QuietTactic
import Derived.BigQuiet
import Derived.Lib.ParseIntBTie
import Derived.Lib.ItoaLen
import Derived.Lib.ItoaMem
import Derived.Lib.Atoi
import Derived.Lib.Strings
namespace Go.Proofs.YtiefeeoellagnaaGreatDoor.S6
open Go.RowKit
set_option linter.unusedVariables false

theorem below_dn {B:Nat} {a w:World} (h:Below B a w) (n:Nat):Below B a (w.drewN n):=h.trans ⟨rfl,rfl,rfl,Nat.le_refl _,fun _ _=>rfl⟩
theorem at_list (s:ByteArray) (k:Nat) (h:k < s.size):s.data.toList[k]?=some s[k]:=by
  rw [List.getElem?_eq_getElem (by simpa using h)]; rfl
theorem list_len (s:ByteArray):s.data.toList.length=s.size:=by show _=s.data.size; simp
theorem drop_more (l:List UInt8) (i:Nat) (b:UInt8) (h:l[i]?=some b):l.drop i=b :: l.drop (i + 1):=by
  obtain ⟨hi,e⟩:=List.getElem?_eq_some_iff.1 h
  rw [List.drop_eq_getElem_cons hi,e]
theorem drop_at (s:ByteArray) (k:Nat) (h:k < s.size):s.data.toList.drop k=s[k] :: s.data.toList.drop (k + 1):=drop_more _ _ _ (at_list s k h)
theorem ext_any (s:ByteArray) (i j:Nat):(s.extract i j).data.toList=(s.data.toList.drop i).take (j - i):=by
  rw [ByteArray.data_extract]
  simp [Array.toList_extract,List.extract_eq_take_drop]
theorem ext_size (s:ByteArray) (i j:Nat) (h:j ≤ s.size):(s.extract i j).size=j - i:=by
  rw [ByteArray.size_extract]; omega
theorem str_same {a b:ByteArray} (h:a.data.toList=b.data.toList):(a.toList == b.toList)=true:=by
  rw [ByteArray.toList_eq,ByteArray.toList_eq,h]; simp
theorem str_other {a b:ByteArray} (h:a.data.toList ≠ b.data.toList):(a.toList == b.toList)=false:=by
  rw [ByteArray.toList_eq,ByteArray.toList_eq]; simpa using h
theorem ret_int {k:IntKind} {a b:Int} (h:a=b):Ending.returned (.int k a)=.returned (.int k b):=by rw [h]
def strB (l:List UInt8):ByteArray:=⟨l.toArray⟩
theorem strB_list (l:List UInt8):(strB l).data.toList=l:=by unfold strB; simp
theorem strB_size (l:List UInt8):(strB l).size=l.length:=by rw [← list_len,strB_list]
theorem strB_of (s:ByteArray):strB s.data.toList=s:=rfl
def bcells (l:List UInt8):List Value:=l.map fun b=>Value.int .u8 (b.toNat:Int)
theorem bcells_snoc (l:List UInt8) (b:UInt8):bcells (l ++ [b])=bcells l ++ [.int .u8 (b.toNat:Int)]:=by unfold bcells; rw [List.map_append]; rfl
theorem bcells_str (l:List UInt8) (s:ByteArray):bcells (l ++ s.data.toList)=bcells l ++ Lib.strCells s:=by unfold bcells Lib.strCells; rw [List.map_append]
theorem info5:(Tryz.prog.info? 5).map (fun i=>(i.zero,i.size,i.bytes))=some (some (.int .u8 0),1,1):=by kernel_rfl
theorem row_lt {w:World} {b:Nat} {o:Obj} (h:w.heap[b]?=some o):b < w.heap.size:=by
  rcases Nat.lt_or_ge b w.heap.size with h' | h'
  · exact h'
  · rw [Array.getElem?_eq_none h'] at h; cases h
theorem own_keep {w w':World} {base e size:Nat} {v:Value} {n:Nat} {xs:List Value} (h:w.ownsRow base e size v n xs) (hk:∀ k,base ≤ k → k < w.heap.size → w'.heap[k]?=w.heap[k]?):w'.ownsRow base e size v n xs:=by
  refine ⟨h.1,?_⟩
  rcases h.2 with h1 | ⟨g,cap,cur,hv,hb,hg,r⟩
  · exact Or.inl h1
  · exact Or.inr ⟨g,cap,cur,hv,hb,by rw [hk g hb (row_lt hg)]; exact hg,r⟩
theorem own_form {w:World} {base e size:Nat} {v:Value} {n:Nat} {xs:List Value} (h:w.ownsRow base e size v n xs):∃ p c,v=.slice p n c:=by
  rcases h.2 with ⟨e,hn⟩ | ⟨gg,cap',cur,e,_⟩
  · exact ⟨none,0,by rw [e,hn]⟩
  · exact ⟨_,_,e⟩
end Go.Proofs.YtiefeeoellagnaaGreatDoor.S6
namespace Go.Proofs.Vi
open Go.Lib

theorem decFrom_snoc:∀ (l:List UInt8) (acc n:Nat) (c:UInt8) (d:Nat),decFrom acc l=some n → digitVal c=some d → decFrom acc (l ++ [c])=some (n * 10 + d)
  | [],acc,n,c,d,h,hd=>by
    simp only [decFrom,Option.some.injEq] at h
    subst h
    simp [decFrom,hd]
  | b :: r,acc,n,c,d,h,hd=>by
    simp only [List.cons_append,decFrom] at h ⊢
    cases hb:digitVal b with
    | none=>rw [hb] at h; cases h
    | some e =>
      rw [hb] at h
      exact decFrom_snoc r _ n c d h hd
theorem digitVal_of (d:Nat) (h:d < 10):digitVal (UInt8.ofNat (48 + d))=some d:=by
  unfold digitVal
  rw [UInt8.toNat_ofNat']
  rw [show (48 + d) % 2 ^ 8=48 + d by omega,if_pos (by omega)]
  congr 1; omega
theorem digit_range {c:UInt8} {d:Nat} (h:digitVal c=some d):d < 10∧c=UInt8.ofNat (48 + d):=by
  obtain ⟨h1,h2,h3⟩:=digitVal_eq h
  refine ⟨by omega,?_⟩
  apply UInt8.toNat_inj.1
  rw [UInt8.toNat_ofNat']; omega
theorem decFrom_digits (u:Nat):decFrom 0 (decDigits u)=some u:=by
  induction u using Nat.strongRecOn with
  | ind u ih =>
    by_cases h:u < 10
    · rw [decDigits_one h]
      simp only [decFrom,digitVal_of u h]
      congr 1; omega
    · rw [decDigits,dif_neg h]
      have:=decFrom_snoc _ 0 _ _ _ (ih (u / 10) (by omega)) (digitVal_of (u % 10) (by omega))
      rw [this]; congr 1; omega
theorem decFrom_le:∀ (l:List UInt8) (acc n:Nat),decFrom acc l=some n → acc ≤ n
  | [],acc,n,h=>by simp [decFrom] at h; omega
  | b :: r,acc,n,h=>by
    simp only [decFrom] at h
    cases hb:digitVal b with
    | none=>rw [hb] at h; cases h
    | some e=>rw [hb] at h; have:=decFrom_le r _ n h; omega
theorem parse_of_dec:∀ (l:List UInt8) (acc u:Nat),decFrom acc l=some u → u < 18446744073709551616 → parseUint10 acc l=.ok u
  | [],acc,u,h,hu=>by simp [decFrom] at h; subst h; rfl
  | b :: r,acc,u,h,hu=>by
    simp only [decFrom] at h
    cases hb:digitVal b with
    | none=>rw [hb] at h; cases h
    | some e =>
      rw [hb] at h
      obtain ⟨h1,h2,rfl⟩:=digitVal_eq hb
      have h3:=decFrom_le r _ u h
      simp only [parseUint10]
      rw [if_pos ⟨h1,h2⟩,if_neg (by omega),if_neg (by omega)]
      exact parse_of_dec r _ u h hu
theorem dec_of_parse:∀ (l:List UInt8) (acc u:Nat),parseUint10 acc l=.ok u → decFrom acc l=some u
  | [],acc,u,h=>by simp only [parseUint10] at h; injection h with h; subst h; rfl
  | b :: r,acc,u,h=>by
    simp only [parseUint10] at h
    split at h
    · rename_i hd
      split at h
      · cases h
      · split at h
        · cases h
        · have:=dec_of_parse r _ u h
          simp only [decFrom,digitVal,if_pos hd]
          exact this
    · cases h
theorem decDigits_ne (u:Nat):decDigits u ≠ []:=by
  intro h
  have:=decDigits_length u
  rw [h] at this
  have h2:=nDigits_pos u
  simp at this
  omega
theorem digits_head (u:Nat):∃ c r,decDigits u=c :: r∧48 ≤ c.toNat∧c.toNat ≤ 57∧(1 ≤ u → 49 ≤ c.toNat):=by
  induction u using Nat.strongRecOn with
  | ind u ih =>
    by_cases h:u < 10
    · refine ⟨_,[],decDigits_one h,?_⟩
      rw [UInt8.toNat_ofNat']; omega
    · obtain ⟨c,r,e,h1,h2,h3⟩:=ih (u / 10) (by omega)
      refine ⟨c,r ++ [UInt8.ofNat (48 + u % 10)],?_,h1,h2,fun _=>h3 (by omega)⟩
      rw [decDigits,dif_neg h,e]; rfl
theorem snoc_dec {l:List UInt8} {c:UInt8} {acc u:Nat} (h:decFrom acc (l ++ [c])=some u):∃ m d,decFrom acc l=some m∧digitVal c=some d∧u=m * 10 + d:=by
  obtain ⟨m,hm⟩:=decFrom_prefix _ _ _ h l.length
  rw [List.take_left'] at hm
  · obtain ⟨d,hd⟩:=digit_of_decFrom _ _ _ h l.length c (by simp)
    refine ⟨m,d,hm,hd,?_⟩
    have:=decFrom_snoc l acc m c d hm hd
    rw [this] at h
    exact (Option.some.inj h).symm
  · rfl
theorem digits_of_dec:∀ (k:Nat) (l:List UInt8) (u:Nat),l.length=k + 1 → decFrom 0 l=some u → (∀ c r,l=c :: r → 49 ≤ c.toNat) → decDigits u=l:=by
  intro k
  induction k with
  | zero =>
    intro l u hl h hc
    match l,hl with
    | [c],_ =>
      simp only [decFrom] at h
      cases hd:digitVal c with
      | none=>rw [hd] at h; cases h
      | some d =>
        rw [hd] at h
        obtain ⟨h10,hce⟩:=digit_range hd
        simp only [Option.some.injEq] at h
        have:u=d:=by omega
        subst this
        rw [decDigits_one h10,← hce]
  | succ k ih =>
    intro l u hl h hc
    have hne:l ≠ []:=by intro e; rw [e] at hl; simp at hl
    obtain ⟨m,c,rfl⟩:∃ m c,l=m ++ [c]:=⟨l.dropLast,l.getLast hne,(List.dropLast_concat_getLast hne).symm⟩
    obtain ⟨v,d,hv,hd,rfl⟩:=snoc_dec h
    have hml:m.length=k + 1:=by simp at hl; omega
    have e:=ih m v hml hv (fun c' r hm=>hc c' (r ++ [c]) (by rw [hm]; rfl))
    obtain ⟨h10,hce⟩:=digit_range hd
    have hv1:1 ≤ v:=by
      rcases Nat.eq_zero_or_pos v with h0 | h0
      · subst h0
        have:=hc (UInt8.ofNat (48 + 0)) ([] ++ [c]) (by rw [← e,decDigits_one (by omega)]; rfl)
        rw [UInt8.toNat_ofNat'] at this
        omega
      · exact h0
    rw [decDigits,dif_neg (by omega),show (v * 10 + d) / 10=v by omega,show (v * 10 + d) % 10=d by omega,e,← hce]

def numberOf (l:List UInt8):Option Int:=
  match parseIntB 64 l with
  | .ok v=>if itoa v=l then some v else none
  | _=>none

theorem mag_of {l:List UInt8} {u:Nat} (hne:l ≠ []) (h:decFrom 0 l=some u) (hu:u < 18446744073709551616):parseMag l=.ok u:=by
  unfold parseMag; rw [if_neg hne]; exact parse_of_dec l 0 u h hu
theorem of_mag {l:List UInt8} {u:Nat} (h:parseMag l=.ok u):l ≠ []∧decFrom 0 l=some u:=by
  unfold parseMag at h
  split at h
  · cases h
  · rename_i hne
    exact ⟨hne,dec_of_parse l 0 u h⟩
theorem parse_itoa (v:Int) (h0:-9223372036854775808 ≤ v) (h1:v ≤ 9223372036854775807):parseIntB 64 (itoa v)=.ok v:=by
  rw [parseIntB_64]
  by_cases hn:v < 0
  · obtain ⟨u,hu⟩:∃ u:Nat,v=-(u:Int):=⟨v.natAbs,by omega⟩
    subst hu
    rw [itoa_neg u (by omega),atoiAll_minus,mag_of (decDigits_ne u) (decFrom_digits u) (by omega)]
    show (if 9223372036854775808 < u then NumEnd.range else .ok (-(u:Int)))=_
    rw [if_neg (by omega)]
  · obtain ⟨u,hu⟩:∃ u:Nat,v=(u:Int):=⟨v.toNat,by omega⟩
    subst hu
    rw [itoa_nonneg]
    obtain ⟨c,r,e,hc1,hc2,_⟩:=digits_head u
    have hm:=mag_of (decDigits_ne u) (decFrom_digits u) (by omega)
    rw [e] at hm ⊢
    rw [atoiAll_plain c r (by omega) (by omega),hm]
    show (if 9223372036854775808 ≤ u then NumEnd.range else .ok (u:Int))=_
    rw [if_neg (by omega)]
theorem numberOf_itoa (v:Int) (h0:-9223372036854775808 ≤ v) (h1:v ≤ 9223372036854775807):numberOf (itoa v)=some v:=by
  unfold numberOf; rw [parse_itoa v h0 h1]; simp
theorem numberOf_some {l:List UInt8} {v:Int} (h:numberOf l=some v):itoa v=l∧-9223372036854775808 ≤ v∧v ≤ 9223372036854775807∧parseIntB 64 l=.ok v:=by
  unfold numberOf at h
  split at h
  · rename_i x hx
    split at h
    · rename_i he
      have:x=v:=Option.some.inj h
      subst this
      have hb:=parseIntB_bounds hx
      simp at hb
      exact ⟨he,by omega,by omega,hx⟩
    · cases h
  · cases h
def body (l:List UInt8):List UInt8:=trimPrefix l [45]
theorem body_minus (r:List UInt8):body (45 :: r)=r:=by
  unfold body trimPrefix; simp [hasPrefix]
theorem body_other (c:UInt8) (r:List UInt8) (h:c ≠ 45):body (c :: r)=c :: r:=by
  unfold body trimPrefix
  have:hasPrefix (c :: r) [45]=false:=by simp [hasPrefix,List.isPrefixOf]; exact fun e=>h e.symm
  rw [this]; rfl
theorem numberOf_zero:numberOf [48]=some 0:=by decide +kernel
theorem numberOf_head {l:List UInt8} {v:Int} (h:numberOf l=some v):l=[48] ∨ ∃ c r,body l=c :: r∧49 ≤ c.toNat∧c.toNat ≤ 57:=by
  obtain ⟨rfl,h0,h1,_⟩:=numberOf_some h
  by_cases hn:v < 0
  · obtain ⟨u,hu⟩:∃ u:Nat,v=-(u:Int):=⟨v.natAbs,by omega⟩
    subst hu
    obtain ⟨c,r,e,hc1,hc2,hc3⟩:=digits_head u
    right
    refine ⟨c,r,?_,hc3 (by omega),hc2⟩
    rw [itoa_neg u (by omega),body_minus,e]
  · obtain ⟨u,hu⟩:∃ u:Nat,v=(u:Int):=⟨v.toNat,by omega⟩
    subst hu
    rw [itoa_nonneg]
    obtain ⟨c,r,e,hc1,hc2,hc3⟩:=digits_head u
    rcases Nat.eq_zero_or_pos u with hz | hp
    · subst hz; left; decide +kernel
    · right
      refine ⟨c,r,?_,hc3 hp,hc2⟩
      rw [e,body_other c r (by intro h; subst h; simp at hc1)]
theorem numberOf_parse {l:List UInt8} {c:UInt8} {r:List UInt8} (hb:body l=c :: r) (h1:49 ≤ c.toNat) (h2:c.toNat ≤ 57) {v:Int} (h:parseIntB 64 l=.ok v):numberOf l=some v:=by
  have key:itoa v=l:=by
    rw [parseIntB_64] at h
    cases l with
    | nil=>cases h
    | cons x t =>
      by_cases hx:x=45
      · subst hx
        rw [body_minus] at hb
        rw [atoiAll_minus] at h
        rcases hm:parseMag t with u | _ | _
        rotate_left
        · rw [hm] at h; cases h
        · rw [hm] at h; cases h
        · rw [hm] at h
          obtain ⟨hne,hd⟩:=of_mag hm
          have h':(if 9223372036854775808 < u then NumEnd.range else .ok (-(u:Int)))=NumEnd.ok v:=h
          split at h'
          · cases h'
          · injection h' with h'
            subst h'
            have e:=digits_of_dec r.length t u (by rw [hb]; rfl) hd (fun c' r' e'=>by rw [hb] at e'; injection e' with e1 _; subst e1; exact h1)
            have hu1:1 ≤ u:=by
              rcases Nat.eq_zero_or_pos u with hz | hp
              · subst hz
                rw [decDigits_one (by omega),hb] at e
                injection e with e1 _
                rw [← e1] at h1
                simp at h1
              · exact hp
            rw [itoa_neg u hu1,e]
      · rw [body_other x t hx] at hb
        injection hb with hb1 hb2
        subst hb1; subst hb2
        rw [atoiAll_plain x t (by omega) (by omega)] at h
        rcases hm:parseMag (x :: t) with u | _ | _
        rotate_left
        · rw [hm] at h; cases h
        · rw [hm] at h; cases h
        · rw [hm] at h
          obtain ⟨hne,hd⟩:=of_mag hm
          have h':(if 9223372036854775808 ≤ u then NumEnd.range else .ok (u:Int))=NumEnd.ok v:=h
          split at h'
          · cases h'
          · injection h' with h'
            subst h'
            have e:=digits_of_dec t.length (x :: t) u rfl hd (fun c' r' e'=>by injection e' with e1 _; subst e1; exact h1)
            rw [itoa_nonneg,e]
  unfold numberOf; rw [h]; simp [key]
theorem numberOf_bad {l:List UInt8} (h:∀ v,parseIntB 64 l ≠ .ok v):numberOf l=none:=by
  cases hn:numberOf l with
  | none=>rfl
  | some v=>exact absurd (numberOf_some hn).2.2.2 (h v)

def sg (neg:Bool) (m:Nat):Int:=if neg then -(m:Int) else m
def w64 (x:Int):Int:=(x + 9223372036854775808) % 18446744073709551616 - 9223372036854775808
theorem w64_range (x:Int):-9223372036854775808 ≤ w64 x∧w64 x ≤ 9223372036854775807:=by unfold w64; omega
theorem w64_id (x:Int) (h0:-9223372036854775808 ≤ x) (h1:x ≤ 9223372036854775807):w64 x=x:=by unfold w64; omega
theorem w64_step_pos (m d:Nat):w64 (w64 (w64 (sg false m) * 10) + d)=w64 (sg false (m * 10 + d)):=by unfold w64 sg; simp; omega
theorem w64_step_neg (m d:Nat):w64 (w64 (w64 (sg true m) * 10) + -(d:Int))=w64 (sg true (m * 10 + d)):=by unfold w64 sg; simp; omega
def isNeg (l:List UInt8):Bool:=match l with | c :: _=>c == 45 | []=>false
def off (l:List UInt8):Nat:=if isNeg l then 1 else 0
theorem body_drop (l:List UInt8):l.drop (off l)=body l:=by
  cases l with
  | nil=>rfl
  | cons c r =>
    by_cases h:c=45
    · subst h; rw [body_minus]; rfl
    · rw [body_other c r h]
      have:isNeg (c :: r)=false:=by simp [isNeg,h]
      simp [off,this]
theorem itoa_body (v:Int):isNeg (itoa v)=decide (v < 0)∧body (itoa v)=decDigits v.natAbs:=by
  by_cases hn:v < 0
  · obtain ⟨u,hu⟩:∃ u:Nat,v=-(u:Int):=⟨v.natAbs,by omega⟩
    subst hu
    rw [itoa_neg u (by omega),body_minus]
    refine ⟨?_,by simp⟩
    have:(decide (-(u:Int) < 0))=true:=by simpa using hn
    rw [this]; rfl
  · obtain ⟨u,hu⟩:∃ u:Nat,v=(u:Int):=⟨v.toNat,by omega⟩
    subst hu
    rw [itoa_nonneg]
    obtain ⟨c,r,e,hc1,hc2,_⟩:=digits_head u
    rw [e]
    have hne:c ≠ 45:=by intro h; subst h; simp at hc1
    rw [body_other c r hne]
    refine ⟨?_,by simp [e]⟩
    have:(decide ((u:Int) < 0))=false:=by simp
    rw [this]; simp [isNeg,hne]
theorem end_number (l:List UInt8) (m:Nat) (h:decFrom 0 (body l)=some m) :
    numberOf l=if itoa (w64 (sg (isNeg l) m))=l then some (w64 (sg (isNeg l) m)) else none:=by
  obtain ⟨r0,r1⟩:=w64_range (sg (isNeg l) m)
  split
  · rename_i he
    have:=numberOf_itoa _ r0 r1
    rw [he] at this
    exact this
  · rename_i he
    cases hn:numberOf l with
    | none=>rfl
    | some v =>
      obtain ⟨rfl,h0,h1,_⟩:=numberOf_some hn
      obtain ⟨e1,e2⟩:=itoa_body v
      rw [e2,decFrom_digits] at h
      have hm:=Option.some.inj h
      have:sg (isNeg (itoa v)) m=v:=by
        rw [e1]; unfold sg
        by_cases hv:v < 0
        · simp [hv]; omega
        · simp [hv]; omega
      rw [this,w64_id v h0 h1] at he
      exact absurd rfl he
theorem bad_digit (l:List UInt8) (k:Nat) (c:UInt8) (hk:off l ≤ k) (hc:l[k]?=some c) (hd:¬ (48 ≤ c.toNat∧c.toNat ≤ 57)):numberOf l=none:=by
  cases hn:numberOf l with
  | none=>rfl
  | some v =>
    obtain ⟨e,h0,h1,_⟩:=numberOf_some hn
    have e2:=(itoa_body v).2
    rw [e] at e2
    have hbd:decFrom 0 (body l)=some v.natAbs:=by rw [e2]; exact decFrom_digits _
    have hbk:(body l)[k - off l]?=some c:=by
      rw [← body_drop,List.getElem?_drop,show off l + (k - off l)=k by omega]; exact hc
    obtain ⟨d,hdv⟩:=digit_of_decFrom _ _ _ hbd _ _ hbk
    obtain ⟨a,b,_⟩:=digitVal_eq hdv
    exact absurd ⟨a,b⟩ hd
theorem bad_long (l:List UInt8) (h:21 < l.length):numberOf l=none:=by
  cases hn:numberOf l with
  | none=>rfl
  | some v =>
    obtain ⟨e,h0,h1,_⟩:=numberOf_some hn
    have:=itoa_length_le v h0 h1
    rw [e] at this
    omega
theorem digits_step (u:Nat) (r:List UInt8):(if u / 10=0 then [] else decDigits (u / 10)) ++ (UInt8.ofNat (48 + u % 10) :: r)=decDigits u ++ r:=by
  by_cases h10:u < 10
  · rw [if_pos (by omega),decDigits_one h10,show u % 10=u by omega]; rfl
  · have e:decDigits u=decDigits (u / 10) ++ [UInt8.ofNat (48 + u % 10)]:=by rw [decDigits,dif_neg h10]
    rw [if_neg (by omega),e]; simp
end Go.Proofs.Vi
