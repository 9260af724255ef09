import Derived.Test.YtijambehfobopaaGreatDoorWAA
import Derived.Test.YtijambehfobopaaGreatDoorWAD
import Derived.Test.YtijambehfobopaaGreatDoorWAB
import Derived.Laws.BytesArg
import Derived.Test.YtijambehfobopaaGreatDoorWAC
set_option linter.unusedVariables false
namespace Go.Proofs.YtijambehfobopaaGreatDoor.LM
open Go.Proofs.Vi
/-! what 'parse' hands over. -/
theorem rd_kind {s:List UInt8} {it:Item} {n:Nat} (e:rdItem s=some (it,n)):(it.isN=true∧it.txt=[]∧I64 it.num) ∨ (it.isN=false∧it.num=0∧it.txt.length ≤ s.length):=by
  cases s with
  | nil=>cases e
  | cons b t =>
    rw [rdItem_cons] at e
    have ht:∀ {h L},txtAt (b :: t) h L=some (it,n) → (it.isN=true∧it.txt=[]∧I64 it.num) ∨ (it.isN=false∧it.num=0∧it.txt.length ≤ (b :: t).length):=fun e=>by
      obtain ⟨h1,h2,h3⟩:=txtAt_some e
      subst h2
      refine Or.inr ⟨rfl,rfl,?_⟩
      show ((List.drop _ (b :: t)).take _).length ≤ _
      rw [List.length_take,List.length_drop]; omega
    have hm:∀ {k},(∀ m:Int,fits k m → I64 m) → numAt (b :: t) k=some (it,n) → (it.isN=true∧it.txt=[]∧I64 it.num) ∨ (it.isN=false∧it.num=0∧it.txt.length ≤ (b :: t).length):=fun hf e=>by
      obtain ⟨g1,g2,g3,g4,g5⟩:=num_inv b t _ it n e
      exact Or.inl ⟨by rw [g2]; rfl,by rw [g2]; rfl,hf _ g3⟩
    have hs:∀ {x:Int} {k:Nat},I64 x → some (numI x,k)=some (it,n) → (it.isN=true∧it.txt=[]∧I64 it.num) ∨ (it.isN=false∧it.num=0∧it.txt.length ≤ (b :: t).length):=fun h1 e=>by
      have:=congrArg Prod.fst (Option.some.inj e); simp only at this; subst this
      exact Or.inl ⟨rfl,rfl,h1⟩
    have hb:=b.toNat_lt
    unfold rdF at e
    split at e
    · exact hs (by unfold I64; omega) e
    split at e
    · exact ht e
    split at e
    · split at e
      · refine hs ?_ e
        unfold s13 I64; split <;> omega
      · cases e
    split at e
    · split at e
      · exact ht e
      · cases e
    split at e
    · split at e
      · exact ht e
      · cases e
    split at e
    · exact hm (fun m h=>by unfold fits at h; unfold I64; omega) e
    split at e
    · exact hm (fun m h=>by unfold fits at h; unfold I64; omega) e
    split at e
    · exact hm (fun m h=>by unfold fits at h; unfold I64; omega) e
    split at e
    · exact hm (fun m h=>by unfold fits at h; unfold I64; omega) e
    · cases e
theorem parse_mem (b:List UInt8):∀ (k p a:Nat) (s:List UInt8),s=b.drop a → ∀ e ∈ (parse k p a s).1,e.begin < b.length∧rdItem (b.drop e.begin)=some (e.it,e.span)
  | 0,p,a,s,_,e,he=>by simp [parse] at he
  | k + 1,p,a,s,hs,e,he=>by
    by_cases hn:s=[]
    · subst hn; rw [parse_nil] at he; simp at he
    · cases hr:rdItem s with
      | none=>rw [parse_none k p a hn hr] at he; simp at he
      | some x =>
        obtain ⟨it,n⟩:=x
        rw [parse_some k p a hr] at he
        rcases List.mem_cons.1 he with rfl | he
        · refine ⟨?_,by rw [← hs]; exact hr⟩
          rcases Nat.lt_or_ge a b.length with h | h
          · exact h
          · exact absurd (by rw [hs]; exact List.drop_eq_nil_of_le h) hn
        · exact parse_mem b k (p + 1) (a + esp n) (s.drop (esp n)) (by rw [hs,List.drop_drop]) e he
theorem parse_place:∀ (k p a:Nat) (s:List UInt8) (pre:List Ent) (x:Ent),pre ++ [x] <+: (parse k p a s).1 → x.place=p + pre.length
  | 0,p,a,s,pre,x,h=>by simp [parse] at h
  | k + 1,p,a,s,pre,x,h=>by
    by_cases hn:s=[]
    · subst hn; rw [parse_nil] at h; simp at h
    · cases hr:rdItem s with
      | none=>rw [parse_none k p a hn hr] at h; simp at h
      | some y =>
        obtain ⟨it,n⟩:=y
        rw [parse_some k p a hr] at h
        cases pre with
        | nil =>
          simp only [List.nil_append] at h
          have:=(List.cons_prefix_cons.1 h).1
          subst this; simp
        | cons z pre =>
          simp only [List.cons_append] at h
          have:=parse_place k (p + 1) _ _ pre x (List.cons_prefix_cons.1 h).2
          rw [this,List.length_cons]; omega
theorem pre_mem {α:Type} {pre L:List α} {x:α} (h:pre ++ [x] <+: L):x ∈ L:=h.subset (by simp)
theorem pre_len {α:Type} {pre L:List α} {x:α} (h:pre ++ [x] <+: L):pre.length < L.length:=by have:=h.length_le; simp at this; omega
theorem parse_len (k p a:Nat) (s:List UInt8):(parse k p a s).1.length ≤ k:=by
  induction k generalizing p a s with
  | zero=>simp [parse]
  | succ k ih =>
    by_cases hn:s=[]
    · subst hn; rw [parse_nil]; simp
    · cases hr:rdItem s with
      | none=>rw [parse_none k p a hn hr]; simp
      | some x =>
        obtain ⟨it,n⟩:=x
        rw [parse_some k p a hr]
        have:=ih (p + 1) (a + esp n) (s.drop (esp n))
        simp only [List.length_cons]; omega
/-! entries of items: where each begins. -/
theorem ents_get:∀ (l:List Item) (p a i:Nat) (h:i < l.length),(entsFrom p a l)[i]?=some ⟨p + i,l[i],a + bsum (l.take i),dsize l[i]⟩
  | x :: l,p,a,0,_=>by simp [entsFrom,bsum]
  | x :: l,p,a,i + 1,h=>by
    simp only [entsFrom,List.getElem?_cons_succ,List.getElem_cons_succ,List.take_succ_cons,bsum_cons]
    rw [ents_get l (p + 1) (a + esz x) i (by simpa using h)]
    rw [show p + 1 + i=p + (i + 1) by omega,show a + esz x + bsum (l.take i)=a + (esz x + bsum (l.take i)) by omega]
theorem bsum_take_le (l:List Item) (i:Nat):bsum (l.take i) ≤ bsum l:=by
  conv=>rhs; rw [← List.take_append_drop i l,bsum_app]
  omega
theorem body_take (l:List Item) (i:Nat):(bodyOf l).take (bsum (l.take i))=bodyOf (l.take i):=by
  have e:bodyOf l=bodyOf (l.take i) ++ bodyOf (l.drop i):=by rw [← bodyOf_app,List.take_append_drop]
  rw [e]; exact List.take_left' (bodyOf_len _)
theorem body_drop (l:List Item) (i:Nat):(bodyOf l).drop (bsum (l.take i))=bodyOf (l.drop i):=by
  have e:bodyOf l=bodyOf (l.take i) ++ bodyOf (l.drop i):=by rw [← bodyOf_app,List.take_append_drop]
  rw [e]; exact List.drop_left' (bodyOf_len _)
end Go.Proofs.YtijambehfobopaaGreatDoor.LM
namespace Go.Proofs.YtijambehfobopaaGreatDoor
open Go.RowKit Vi
set_option linter.unusedVariables false

theorem cons_str (b:UInt8) (l:List UInt8):(⟨#[b]⟩:ByteArray) ++ ⟨l.toArray⟩=⟨(b :: l).toArray⟩:=by
  apply ByteArray.ext
  simp
theorem conv1 (w:World) (T:TypeId) (x:Int) :
    Sem.run Tryz.prog (convert 107 9 (.slice (some ⟨w.heap.size,0,none⟩) 1 1)) (w.alloc (.cells #[.int .u8 x] T)) =
      .ok (.string (strOfNums [x])) (w.alloc (.cells #[.int .u8 x] T)):=by
  refine run_convert_bytes_arg _ 107 5 Tryz.underlying107 Tryz.underlying5 w.heap.size 0 1 1 _ rfl ?_ 9 Tryz.underlying9
  intro i hi
  rw [World.cell?_alloc_at _ _ _ _ rfl]
  match i,hi with
  | 0,_=>rfl
theorem digit_str (u:Nat) (r:List UInt8):strOfNums [48 + (u:Int) % 10] ++ (⟨r.toArray⟩:ByteArray)=⟨(UInt8.ofNat (48 + u % 10) :: r).toArray⟩:=by
  have e:strOfNums [48 + (u:Int) % 10]=⟨#[UInt8.ofNat (48 + u % 10)]⟩:=by
    unfold strOfNums
    simp only [List.map]
    rw [show ((48 + (u:Int) % 10).toNat)=48 + u % 10 by omega]
  rw [e,cons_str]
theorem one_size (x:Int):(strOfNums [x]).size=1:=rfl
def upper (u:Nat):List UInt8:=if u=0 then [] else Lib.decDigits u
theorem upper_step (u:Nat) (r:List UInt8) (h:u ≠ 0):upper (u / 10) ++ (UInt8.ofNat (48 + u % 10) :: r)=upper u ++ r:=by
  unfold upper
  rw [if_neg h]
  exact digits_step u r
theorem upper_len {u N:Nat} {r:List UInt8} (h:upper u ++ r=Lib.decDigits N) (hN:N < 18446744073709551616):r.length ≤ 20:=by
  have h1:=congrArg List.length h
  rw [List.length_append,Lib.decDigits_length] at h1
  have h2:=Lib.nDigits_le20 N hN
  omega

set_option maxHeartbeats 400000 in
theorem refDigits_zero (w:World) :
    Calls Tryz.prog 82 #[.int .i64 0] w fun e w'=>e=.returned (.string (itoaB 0))∧Below w.heap.size w w':=by
  have HI:Hid (itoaB 0=⟨#[48]⟩):=by show _=_; unfold itoaB; rw [show Lib.itoa 0=[48] by decide +kernel]
  go_enter Tryz.func82,Tryz.ntmps82
  go_wp2
  go_ret
  exact ⟨by rw [HI.out]; rfl,Below.refl _ _⟩
set_option maxHeartbeats 1000000 in
set_option maxRecDepth 20000 in
theorem refDigits_pos (N:Nat) (h0:1 ≤ N) (h1:N ≤ 9223372036854775807) (w:World) :
    Calls Tryz.prog 82 #[.int .i64 (N:Int)] w fun e w'=>e=.returned (.string (itoaB N))∧Below w.heap.size w w':=by
  have HI:Hid (itoaB N=⟨(Lib.decDigits N).toArray⟩):=by show _=_; unfold itoaB; rw [Lib.itoa_nonneg]
  have hn0:((N:Int) == 0)=false:=by simp; omega
  have hng:decide ((N:Int) < 0)=false:=by simp
  have HN:Hid (N ≤ 9223372036854775807∧1 ≤ N):=⟨h1,h0⟩
  clear h0 h1
  go_enter Tryz.func82,Tryz.ntmps82
  go_wp2
  go_loopw [3,4,5] (fun t m d wr=>∃ (u:Nat) (r:List UInt8),u ≤ N∧m=.int .i64 (u:Int)∧t=.string ⟨r.toArray⟩∧upper u ++ r=Lib.decDigits N∧Below w.heap.size w wr) (fun _ m _ _=>(intOf m).toNat)
  case atStart=>exact ⟨N,[],by omega,rfl,rfl,by unfold upper; rw [if_neg (by have:=HN.out; omega)]; simp,Below.refl _ _⟩
  case round =>
    obtain ⟨u,r,hu,rfl,rfl,hr,hbel⟩:=hrel
    have HR:Hid (upper u ++ r=Lib.decDigits N):=hr
    clear hr
    by_cases hz:u=0
    · subst hz
      go_wp2
      go_ret
      exact ⟨by rw [HI.out,← HR.out]; rfl,hbel⟩
    · have hne:((u:Int) != 0)=true:=by simp; omega
      have HS:Hid _:=digit_str u r
      have HU:Hid (upper (u / 10) ++ (UInt8.ofNat (48 + u % 10) :: r)=Lib.decDigits N):=by show _=_; rw [upper_step u r hz]; exact HR.out
      have hcv:=conv1 wr
      have hub:(u:Int) ≤ 9223372036854775807:=by have:=HN.out; omega
      have hu0:0 ≤ (u:Int):=by omega
      have hd:decide ((u:Int) % 10 < 0)=false:=by simp; omega
      have hrl:=upper_len HR.out (by have:=HN.out; omega)
      have hsz:=one_size (48 + (u:Int) % 10)
      have HD:Hid (u ≤ N):=hu
      clear hu
      go_wp2
      go_roundw
      case rel =>
        refine ⟨u / 10,_,by have:=HD.out; omega,by go_num,by rw [HS.out],HU.out,hbel.alloc hbel.size _⟩
      case measure=>simp [intOf]; omega
theorem tmod_neg (u:Nat):(-(u:Int)).tmod 10=-((u:Int) % 10):=by
  rw [Int.neg_tmod,Int.tmod_eq_emod_of_nonneg (by omega)]
theorem tdiv_neg (u:Nat):(-(u:Int)).tdiv 10=-((u:Int) / 10):=by
  rw [Int.neg_tdiv,Int.tdiv_eq_ediv_of_nonneg (by omega)]
set_option maxHeartbeats 1000000 in
set_option maxRecDepth 20000 in
theorem refDigits_neg (N:Nat) (h0:1 ≤ N) (h1:N ≤ 9223372036854775808) (w:World) :
    Calls Tryz.prog 82 #[.int .i64 (-(N:Int))] w fun e w'=>e=.returned (.string (itoaB (-(N:Int))))∧Below w.heap.size w w':=by
  have HI:Hid (itoaB (-(N:Int))=⟨(45 :: Lib.decDigits N).toArray⟩):=by show _=_; unfold itoaB; rw [Lib.itoa_neg N h0]
  have hn0:((-(N:Int)) == 0)=false:=by simp; omega
  have hng:decide (-(N:Int) < 0)=true:=by simp; omega
  have hNp:0 < N:=h0
  have HN:Hid (N ≤ 9223372036854775808∧1 ≤ N):=⟨h1,h0⟩
  clear h0 h1
  go_enter Tryz.func82,Tryz.ntmps82
  go_wp2
  go_loopw [3,4,5] (fun t m d wr=>∃ (u:Nat) (r:List UInt8),u ≤ N∧m=.int .i64 (-(u:Int))∧t=.string ⟨r.toArray⟩∧upper u ++ r=Lib.decDigits N∧Below w.heap.size w wr) (fun _ m _ _=>(-(intOf m)).toNat)
  case atStart=>exact ⟨N,[],by omega,rfl,rfl,by unfold upper; rw [if_neg (by have:=HN.out; omega)]; simp,Below.refl _ _⟩
  case round =>
    obtain ⟨u,r,hu,rfl,rfl,hr,hbel⟩:=hrel
    have HR:Hid (upper u ++ r=Lib.decDigits N):=hr
    clear hr
    have hrl:=upper_len HR.out (by have:=HN.out; omega)
    by_cases hz:u=0
    · subst hz
      have HC:Hid _:=cons_str 45 r
      rw [show (-((0:Nat):Int))=0 from rfl]
      go_wp2
      go_ret
      exact ⟨by rw [HI.out,← HR.out,show upper 0 ++ r=r from rfl,← HC.out]; rfl,hbel⟩
    · have hne:((-(u:Int)) != 0)=true:=by simp; omega
      have HS:Hid _:=digit_str u r
      have HU:Hid (upper (u / 10) ++ (UInt8.ofNat (48 + u % 10) :: r)=Lib.decDigits N):=by show _=_; rw [upper_step u r hz]; exact HR.out
      have hcv:=conv1 wr
      have hub:(u:Int) ≤ 9223372036854775808:=by have:=HN.out; omega
      have hu0:0 ≤ (u:Int):=by omega
      have htm:=tmod_neg u
      have htd:=tdiv_neg u
      have hsz:=one_size (48 + (u:Int) % 10)
      have HD:Hid (u ≤ N):=hu
      clear hu
      by_cases hd:(u:Int) % 10=0
      · have HZ:Hid (strOfNums [48] ++ (⟨r.toArray⟩:ByteArray)=⟨(UInt8.ofNat (48 + u % 10) :: r).toArray⟩):=by
          show _=_
          have:=HS.out
          rw [hd] at this
          exact this
        have hsz2:=one_size 48
        go_wp2
        go_roundw
        case rel=>exact ⟨u / 10,_,by have:=HD.out; omega,by go_num,by rw [HZ.out],HU.out,hbel.alloc hbel.size _⟩
        case measure=>simp [intOf]; omega
      · have hd1:0 < (u:Int) % 10:=by omega
        go_wp2
        go_roundw
        case rel=>exact ⟨u / 10,_,by have:=HD.out; omega,by go_num,by rw [HS.out],HU.out,hbel.alloc hbel.size _⟩
        case measure=>simp [intOf]; omega
theorem refDigits_any (n:Int) (h0:-9223372036854775808 ≤ n) (h1:n ≤ 9223372036854775807) (w:World) :
    Calls Tryz.prog 82 #[.int .i64 n] w fun e w'=>e=.returned (.string (itoaB n))∧Below w.heap.size w w':=by
  rcases Int.lt_trichotomy n 0 with h | h | h
  · obtain ⟨N,rfl⟩:∃ N:Nat,n=-(N:Int):=⟨n.natAbs,by omega⟩
    exact refDigits_neg N (by omega) (by omega) w
  · subst h
    exact refDigits_zero w
  · obtain ⟨N,rfl⟩:∃ N:Nat,n=(N:Int):=⟨n.toNat,by omega⟩
    exact refDigits_pos N (by omega) (by omega) w
end Go.Proofs.YtijambehfobopaaGreatDoor
namespace Go.Proofs.YtijambehfobopaaGreatDoor
open Go.RowKit Vi
set_option linter.unusedVariables false

theorem itoaB_list (n:Int):(itoaB n).data.toList=Lib.itoa n:=by unfold itoaB; simp
theorem neg_of (s:ByteArray) (hs:0 < s.size):isNeg s.data.toList=(s[0] == 45):=by
  rw [head_tl s hs]; rfl
structure NumAt (l:List UInt8) (k:Nat) (x:Int) (m:Nat):Prop where
  dec:Lib.decFrom 0 ((body l).take (k - off l))=some m
  val:x=w64 (sg (isNeg l) m)
theorem NumAt.start (l:List UInt8):NumAt l 0 0 0:=⟨by simp [Lib.decFrom],by unfold sg w64; cases isNeg l <;> simp⟩
theorem NumAt.skip {l:List UInt8} {x:Int} {m:Nat} (h:NumAt l 0 x m) (ho:off l=1):NumAt l 1 x m:=⟨by rw [ho]; have:=h.dec; rw [ho] at this; exact this,h.val⟩
theorem NumAt.range {l:List UInt8} {k:Nat} {x:Int} {m:Nat} (h:NumAt l k x m):-9223372036854775808 ≤ x∧x ≤ 9223372036854775807:=by rw [h.val]; exact w64_range _
theorem body_get (l:List UInt8) (k:Nat) (hk:off l ≤ k):(body l)[k - off l]?=l[k]?:=by
  rw [← body_drop,List.getElem?_drop,show off l + (k - off l)=k by omega]
theorem dig_val {c:UInt8} (h0:48 ≤ c.toNat) (h1:c.toNat ≤ 57):Lib.digitVal c=some (c.toNat - 48):=by unfold Lib.digitVal; rw [if_pos ⟨h0,h1⟩]
theorem NumAt.dec_step {l:List UInt8} {k:Nat} {x:Int} {m:Nat} (h:NumAt l k x m) (hk:off l ≤ k) (c:UInt8) (hc:l[k]?=some c) (h0:48 ≤ c.toNat) (h1:c.toNat ≤ 57) :
    Lib.decFrom 0 ((body l).take (k + 1 - off l))=some (m * 10 + (c.toNat - 48)):=by
  rw [show k + 1 - off l=(k - off l) + 1 by omega]
  exact Lib.decFrom_take _ _ _ _ _ _ h.dec (by rw [body_get l k hk]; exact hc) (dig_val h0 h1)
theorem NumAt.pos {l:List UInt8} {k:Nat} {x:Int} {m:Nat} (h:NumAt l k x m) (hn:isNeg l=false) (c:UInt8) (hc:l[k]?=some c) (h0:48 ≤ c.toNat) (h1:c.toNat ≤ 57) :
    NumAt l (k + 1) (w64 (w64 (x * 10) + ((c.toNat:Int) - 48))) (m * 10 + (c.toNat - 48)):=by
  refine ⟨h.dec_step (by unfold off; rw [hn]; simp) c hc h0 h1,?_⟩
  rw [h.val,hn,← w64_step_pos]
  congr 2
  omega
theorem NumAt.neg {l:List UInt8} {k:Nat} {x:Int} {m:Nat} (h:NumAt l k x m) (hn:isNeg l=true) (hk:1 ≤ k) (c:UInt8) (hc:l[k]?=some c) (h0:48 ≤ c.toNat) (h1:c.toNat ≤ 57) :
    NumAt l (k + 1) (w64 (w64 (x * 10) + -((c.toNat:Int) - 48))) (m * 10 + (c.toNat - 48)):=by
  refine ⟨h.dec_step (by unfold off; rw [hn]; simpa using hk) c hc h0 h1,?_⟩
  rw [h.val,hn,← w64_step_neg]
  congr 3
  omega
theorem NumAt.end {l:List UInt8} {x:Int} {m:Nat} (h:NumAt l l.length x m):numberOf l=if Lib.itoa x=l then some x else none:=by
  have hd:=h.dec
  rw [List.take_of_length_le (by rw [← body_drop]; simp)] at hd
  have:=end_number l m hd
  rw [← h.val] at this
  exact this

theorem w64_wrap6 (x:Int):w64 x=wrap64 x:=by unfold w64 wrap64; rfl
theorem str48 {s:ByteArray} {x:Int} (h:Lib.itoa x=s.data.toList):((itoaB x).toList == s.toList)=true:=str_same (by rw [itoaB_list]; exact h)
theorem str48' {s:ByteArray} {x:Int} (h:¬ Lib.itoa x=s.data.toList):((itoaB x).toList == s.toList)=false:=str_other (by rw [itoaB_list]; exact h)

set_option maxHeartbeats 1000000 in
set_option maxRecDepth 20000 in
theorem refNumber_pos (s:ByteArray) (hs:0 < s.size) (hm:s.size ≤ maxLen) (hn:(s[0] == 45)=false) (w:World) :
    Calls Tryz.prog 98 #[.string s] w fun e w'=>e=.returned (numT s.data.toList)∧Below w.heap.size w w':=by
  unfold maxLen at hm
  have t0:((s[0].toNat:Int) == 45)=false:=by
    simp only [beq_eq_false_iff_ne,ne_eq] at hn ⊢
    intro e
    exact hn (UInt8.toNat_inj.1 (by show s[0].toNat=45; omega))
  have HN:Hid (isNeg s.data.toList=false):=by show _=_; rw [neg_of s hs]; exact hn
  have hs':0 < (s.size:Int):=by omega
  clear hn
  go_enter Tryz.func98,Tryz.ntmps98
  go_wp2
  go_loop [4,6,7] (fun n i _=>∃ (k:Nat) (x:Int) (m:Nat),k ≤ s.size∧i=.int .i64 k∧n=.int .i64 x∧NumAt s.data.toList k x m) (fun _ i _=>s.size - (intOf i).toNat)
  case atStart=>exact ⟨0,0,0,by omega,rfl,rfl,NumAt.start _⟩
  case round =>
    obtain ⟨k,x,m,hk,rfl,rfl,hat⟩:=hrel
    have HA:Hid (NumAt s.data.toList k x m):=hat
    obtain ⟨hx0,hx1⟩:=hat.range
    clear hat
    obtain ⟨kz,tz⟩:∃ b:Bool,((k:Int) == 0)=b:=⟨_,rfl⟩
    by_cases hlt:k < s.size
    · by_cases hd:48 ≤ s[k].toNat∧s[k].toNat ≤ 57∧k ≤ 20
      · have HS0:=HA.out.pos HN.out s[k] (at_list s k hlt) hd.1 hd.2.1
        rw [w64_wrap6,w64_wrap6] at HS0
        have HS:Hid _:=HS0
        clear HS0
        have t1:decide ((s[k].toNat:Int) < 48)=false:=by simp; omega
        have t2:decide ((57:Int) < (s[k].toNat:Int))=false:=by simp; omega
        have t3:(k:Int) ≤ 20:=by omega
        have hu1:(48:Int) ≤ s[k].toNat:=by omega
        have hu2:(s[k].toNat:Int) ≤ 57:=by omega
        clear hd
        go_wp2
        all_goals
          go_round
          case rel=>exact ⟨k + 1,_,_,by omega,by go_num,rfl,HS.out⟩
          case measure=>simp [intOf]; omega
      · have HR:Hid (numberOf s.data.toList=none):=by
          show _=_
          by_cases c:k ≤ 20
          · exact bad_digit _ k s[k] (by unfold off; rw [HN.out]; simp) (at_list s k hlt) (by omega)
          · exact bad_long _ (by rw [list_len]; omega)
        have HR':Hid _:=numT_none HR.out
        rcases (show (s[k].toNat:Int) < 48 ∨ 48 ≤ (s[k].toNat:Int)∧57 < (s[k].toNat:Int) ∨ 48 ≤ (s[k].toNat:Int)∧(s[k].toNat:Int) ≤ 57∧20 < (k:Int) by omega) with c | c | c
        · have t1:decide ((s[k].toNat:Int) < 48)=true:=by simpa using c
          clear c hd
          go_wp2
          all_goals
            go_ret2
            exact ⟨by rw [HR'.out]; rfl,Below.refl _ _⟩
        · have t1:decide ((s[k].toNat:Int) < 48)=false:=by simp; omega
          have t2:decide ((57:Int) < (s[k].toNat:Int))=true:=by simpa using c.2
          clear c hd
          go_wp2
          all_goals
            go_ret2
            exact ⟨by rw [HR'.out]; rfl,Below.refl _ _⟩
        · have t1:decide ((s[k].toNat:Int) < 48)=false:=by simp; omega
          have t2:decide ((57:Int) < (s[k].toNat:Int))=false:=by simp; omega
          have t3:(20:Int) < k:=c.2.2
          clear c hd
          go_wp2
          all_goals
            go_ret2
            exact ⟨by rw [HR'.out]; rfl,Below.refl _ _⟩
    · have HE:Hid (numberOf s.data.toList=if Lib.itoa x=s.data.toList then some x else none):=by
        have h:=HA.out
        rw [show k=s.data.toList.length by rw [list_len]; omega] at h
        exact h.end
      by_cases he:Lib.itoa x=s.data.toList
      · have hq:=str48 he
        have HR:Hid _:=numT_some (HE.out.trans (if_pos he))
        clear he
        go_wp2_with fail
        refine (refDigits_any x hx0 hx1 _).mono ?_
        rintro e w1 ⟨rfl,hb1⟩
        go_wp2
        go_ret2
        exact ⟨by rw [HR.out]; rfl,hb1⟩
      · have hq:=str48' he
        have HR:Hid _:=numT_none (HE.out.trans (if_neg he))
        clear he
        go_wp2_with fail
        refine (refDigits_any x hx0 hx1 _).mono ?_
        rintro e w1 ⟨rfl,hb1⟩
        go_wp2
        go_ret2
        exact ⟨by rw [HR.out]; rfl,hb1⟩
set_option maxHeartbeats 1000000 in
set_option maxRecDepth 20000 in
theorem refNumber_neg (s:ByteArray) (hs:0 < s.size) (hm:s.size ≤ maxLen) (hn:(s[0] == 45)=true) (w:World) :
    Calls Tryz.prog 98 #[.string s] w fun e w'=>e=.returned (numT s.data.toList)∧Below w.heap.size w w':=by
  unfold maxLen at hm
  have t0:((s[0].toNat:Int) == 45)=true:=by
    simp only [beq_iff_eq] at hn ⊢
    rw [hn]; rfl
  have HN:Hid (isNeg s.data.toList=true):=by show _=_; rw [neg_of s hs]; exact hn
  have hs':0 < (s.size:Int):=by omega
  clear hn
  go_enter Tryz.func98,Tryz.ntmps98
  go_wp2
  go_loop [4,6,7] (fun n i _=>∃ (k:Nat) (x:Int) (m:Nat),k ≤ s.size∧i=.int .i64 k∧n=.int .i64 x∧NumAt s.data.toList k x m) (fun _ i _=>s.size - (intOf i).toNat)
  case atStart=>exact ⟨0,0,0,by omega,rfl,rfl,NumAt.start _⟩
  case round =>
    obtain ⟨k,x,m,hk,rfl,rfl,hat⟩:=hrel
    have HA:Hid (NumAt s.data.toList k x m):=hat
    obtain ⟨hx0,hx1⟩:=hat.range
    clear hat
    have HO:Hid (off s.data.toList=1):=by show _=_; unfold off; rw [HN.out]; rfl
    by_cases hlt:k < s.size
    · by_cases hk0:k=0
      · subst hk0
        have HS:Hid _:=HA.out.skip HO.out
        rw [show ((0:Nat):Int)=0 from rfl]
        go_wp2
        go_round
        case rel=>exact ⟨1,_,_,by omega,by go_num,rfl,HS.out⟩
        case measure=>simp [intOf]; omega
      have tz:((k:Int) == 0)=false:=by simp; omega
      have hk1:1 ≤ k:=by omega
      clear hk0
      by_cases hd:48 ≤ s[k].toNat∧s[k].toNat ≤ 57∧k ≤ 20
      · have HS0:=HA.out.neg HN.out hk1 s[k] (at_list s k hlt) hd.1 hd.2.1
        rw [w64_wrap6,w64_wrap6] at HS0
        have HS:Hid _:=HS0
        clear HS0
        have t1:decide ((s[k].toNat:Int) < 48)=false:=by simp; omega
        have t2:decide ((57:Int) < (s[k].toNat:Int))=false:=by simp; omega
        have t3:(k:Int) ≤ 20:=by omega
        have hu1:(48:Int) ≤ s[k].toNat:=by omega
        have hu2:(s[k].toNat:Int) ≤ 57:=by omega
        clear hd
        go_wp2
        all_goals
          go_round
          case rel=>exact ⟨k + 1,_,_,by omega,by go_num,rfl,HS.out⟩
          case measure=>simp [intOf]; omega
      · have HR:Hid (numberOf s.data.toList=none):=by
          show _=_
          by_cases c:k ≤ 20
          · exact bad_digit _ k s[k] (by rw [HO.out]; exact hk1) (at_list s k hlt) (by omega)
          · exact bad_long _ (by rw [list_len]; omega)
        have HR':Hid _:=numT_none HR.out
        rcases (show (s[k].toNat:Int) < 48 ∨ 48 ≤ (s[k].toNat:Int)∧57 < (s[k].toNat:Int) ∨ 48 ≤ (s[k].toNat:Int)∧(s[k].toNat:Int) ≤ 57∧20 < (k:Int) by omega) with c | c | c
        · have t1:decide ((s[k].toNat:Int) < 48)=true:=by simpa using c
          clear c hd
          go_wp2
          all_goals
            go_ret2
            exact ⟨by rw [HR'.out]; rfl,Below.refl _ _⟩
        · have t1:decide ((s[k].toNat:Int) < 48)=false:=by simp; omega
          have t2:decide ((57:Int) < (s[k].toNat:Int))=true:=by simpa using c.2
          clear c hd
          go_wp2
          all_goals
            go_ret2
            exact ⟨by rw [HR'.out]; rfl,Below.refl _ _⟩
        · have t1:decide ((s[k].toNat:Int) < 48)=false:=by simp; omega
          have t2:decide ((57:Int) < (s[k].toNat:Int))=false:=by simp; omega
          have t3:(20:Int) < k:=c.2.2
          clear c hd
          go_wp2
          all_goals
            go_ret2
            exact ⟨by rw [HR'.out]; rfl,Below.refl _ _⟩
    · have HE:Hid (numberOf s.data.toList=if Lib.itoa x=s.data.toList then some x else none):=by
        have h:=HA.out
        rw [show k=s.data.toList.length by rw [list_len]; omega] at h
        exact h.end
      by_cases he:Lib.itoa x=s.data.toList
      · have hq:=str48 he
        have HR:Hid _:=numT_some (HE.out.trans (if_pos he))
        clear he
        go_wp2_with fail
        refine (refDigits_any x hx0 hx1 _).mono ?_
        rintro e w1 ⟨rfl,hb1⟩
        go_wp2
        go_ret2
        exact ⟨by rw [HR.out]; rfl,hb1⟩
      · have hq:=str48' he
        have HR:Hid _:=numT_none (HE.out.trans (if_neg he))
        clear he
        go_wp2_with fail
        refine (refDigits_any x hx0 hx1 _).mono ?_
        rintro e w1 ⟨rfl,hb1⟩
        go_wp2
        go_ret2
        exact ⟨by rw [HR.out]; rfl,hb1⟩
set_option maxHeartbeats 400000 in
theorem refNumber_empty (w:World) :
    Calls Tryz.prog 98 #[.string ⟨#[]⟩] w fun e w'=>e=.returned (numT [])∧Below w.heap.size w w':=by
  have HR:Hid _:=numT_none (l:=[]) (by decide +kernel)
  have hq:((itoaB 0).toList == (⟨#[]⟩:ByteArray).toList)=false:=str_other (by rw [itoaB_list]; decide +kernel)
  have hq2:((itoaB 0).toList == [])=false:=by
    rw [ByteArray.toList_eq,itoaB_list]; decide +kernel
  have hq3:(itoaB 0).toList.isEmpty=false:=by
    rw [ByteArray.toList_eq,itoaB_list]; decide +kernel
  go_enter Tryz.func98,Tryz.ntmps98
  go_wp2
  go_loop [4,6] (fun n i=>n=.int .i64 0∧i=.int .i64 0) (fun _ _=>0)
  case atStart=>exact ⟨rfl,rfl⟩
  case round =>
    obtain ⟨rfl,rfl⟩:=hrel
    go_wp2_with fail
    refine (refDigits_zero _).mono ?_
    rintro e w1 ⟨rfl,hb1⟩
    go_wp2
    go_ret2
    exact ⟨by rw [HR.out]; rfl,hb1⟩
theorem refNumber_any (s:ByteArray) (hm:s.size ≤ maxLen) (w:World) :
    Calls Tryz.prog 98 #[.string s] w fun e w'=>e=.returned (numT s.data.toList)∧Below w.heap.size w w':=by
  by_cases hs0:s.size=0
  · rw [empty_str s hs0]; exact refNumber_empty w
  · have hs:0 < s.size:=by omega
    cases hn:(s[0] == 45) with
    | false=>exact refNumber_pos s hs hm hn w
    | true=>exact refNumber_neg s hs hm hn w
end Go.Proofs.YtijambehfobopaaGreatDoor
namespace Go.Proofs.YtijambehfobopaaGreatDoor
open Go.RowKit
set_option linter.unusedVariables false
theorem w64_step (x b:Nat):wrap64 (wrap64 ((wrap64 (x:Int)) * 256) + (b:Int))=wrap64 ((x * 256 + b:Nat):Int):=by
  have:((x * 256 + b:Nat):Int)=(x:Int) * 256 + b:=by simp
  rw [this]; unfold wrap64; omega
theorem leN_drop (l:List UInt8) (i:Nat) (h:i < l.length):LM.leN (l.drop i)=LM.leN (l.drop (i + 1)) * 256 + l[i].toNat:=by
  rw [List.drop_eq_getElem_cons h]; simp only [LM.leN]; omega
set_option maxHeartbeats 2000000 in
set_option maxRecDepth 100000 in
theorem rsg_any (s:ByteArray) (h1:1 ≤ s.size) (h8:s.size ≤ 8) (w:World):Calls Tryz.prog 83 #[.string s] w fun e w'=>e=.returned (.int .i64 (LM.sg s.size (LM.leN s.data.toList)))∧w'=w:=by
  have HLT:Hid (LM.leN s.data.toList < 256 ^ s.size):=by have:=LM.leN_lt s.data.toList; rwa [list_len] at this
  go_enter Tryz.func83,Tryz.ntmps83
  obtain ⟨L,hL⟩:∃ L,LM.leN s.data.toList=L:=⟨_,rfl⟩
  rw [hL] at HLT ⊢
  have HLL:Hid _:=hL
  clear hL
  go_wp2
  go_loopw [3,4] (fun nv iv wr=>wr=w∧((iv=.int .i64 (-1)∧nv=.int .i64 (wrap64 (L:Int))) ∨ ∃ j:Nat,j < s.size∧iv=.int .i64 (j:Int)∧nv=.int .i64 (wrap64 (LM.leN (s.data.toList.drop (j + 1)):Nat)))) (fun _ iv _=>(intOf iv + 1).toNat)
  case atStart =>
    refine ⟨rfl,Or.inr ⟨s.size - 1,by omega,by congr 1; omega,?_⟩⟩
    rw [show s.size - 1 + 1=s.size by omega,List.drop_eq_nil_of_le (by rw [list_len]; omega)]; simp [LM.leN,wrap64]
  case round =>
    obtain ⟨rfl,⟨rfl,rfl⟩ | ⟨j,hj,rfl,rfl⟩⟩:=hrel
    · by_cases h7:s.size=8
      · have hd:decide ((s.size:Int) < 8)=false:=by simp; omega
        have HR:Hid (LM.sg s.size L=wrap64 (L:Int)):=by
          have:=HLT.out
          rw [h7] at this
          show _=_; rw [h7]; unfold LM.sg wrap64; simp only [Nat.reducePow] at this ⊢; split <;> omega
        go_wp2
        go_ret
        refine ⟨?_,rfl⟩
        show Ending.returned (.int .i64 (wrap64 (L:Int)))=_
        rw [HR.out]
      · have hd:decide ((s.size:Int) < 8)=true:=by simp; omega
        have hlt:=HLT.out
        obtain ⟨k,hk⟩:∃ k,s.size=k:=⟨_,rfl⟩
        rw [hk] at hlt h1 h8 h7 hd ⊢
        rcases (show k=1 ∨ k=2 ∨ k=3 ∨ k=4 ∨ k=5 ∨ k=6 ∨ k=7 by omega) with rfl | rfl | rfl | rfl | rfl | rfl | rfl
        · simp only [Nat.reducePow] at hlt
          have hw:wrap64 (L:Int)=(L:Int):=by unfold wrap64; omega
          have HLT2:Hid _:=hlt
          have HWW:Hid _:=hw
          have HK:Hid _:=hk
          clear hw hlt hd h1 h8 h7 HLT
          generalize wrap64 (L:Int)=LL at HWW ⊢
          go_wp2_with fail
          all_goals
            go_ret
            refine ⟨?_,rfl⟩
            refine congrArg Ending.returned (congrArg (Value.int .i64) ?_)
            have e:=HWW.out
            have l2:=HLT2.out
            rw [HK.out]
            unfold LM.sg
            try unfold wrap64
            simp only [Nat.reducePow]
            split <;> omega
        · simp only [Nat.reducePow] at hlt
          have hw:wrap64 (L:Int)=(L:Int):=by unfold wrap64; omega
          have HLT2:Hid _:=hlt
          have HWW:Hid _:=hw
          have HK:Hid _:=hk
          clear hw hlt hd h1 h8 h7 HLT
          generalize wrap64 (L:Int)=LL at HWW ⊢
          go_wp2_with fail
          all_goals
            go_ret
            refine ⟨?_,rfl⟩
            refine congrArg Ending.returned (congrArg (Value.int .i64) ?_)
            have e:=HWW.out
            have l2:=HLT2.out
            rw [HK.out]
            unfold LM.sg
            try unfold wrap64
            simp only [Nat.reducePow]
            split <;> omega
        · simp only [Nat.reducePow] at hlt
          have hw:wrap64 (L:Int)=(L:Int):=by unfold wrap64; omega
          have HLT2:Hid _:=hlt
          have HWW:Hid _:=hw
          have HK:Hid _:=hk
          clear hw hlt hd h1 h8 h7 HLT
          generalize wrap64 (L:Int)=LL at HWW ⊢
          go_wp2_with fail
          all_goals
            go_ret
            refine ⟨?_,rfl⟩
            refine congrArg Ending.returned (congrArg (Value.int .i64) ?_)
            have e:=HWW.out
            have l2:=HLT2.out
            rw [HK.out]
            unfold LM.sg
            try unfold wrap64
            simp only [Nat.reducePow]
            split <;> omega
        · simp only [Nat.reducePow] at hlt
          have hw:wrap64 (L:Int)=(L:Int):=by unfold wrap64; omega
          have HLT2:Hid _:=hlt
          have HWW:Hid _:=hw
          have HK:Hid _:=hk
          clear hw hlt hd h1 h8 h7 HLT
          generalize wrap64 (L:Int)=LL at HWW ⊢
          go_wp2_with fail
          all_goals
            go_ret
            refine ⟨?_,rfl⟩
            refine congrArg Ending.returned (congrArg (Value.int .i64) ?_)
            have e:=HWW.out
            have l2:=HLT2.out
            rw [HK.out]
            unfold LM.sg
            try unfold wrap64
            simp only [Nat.reducePow]
            split <;> omega
        · simp only [Nat.reducePow] at hlt
          have hw:wrap64 (L:Int)=(L:Int):=by unfold wrap64; omega
          have HLT2:Hid _:=hlt
          have HWW:Hid _:=hw
          have HK:Hid _:=hk
          clear hw hlt hd h1 h8 h7 HLT
          generalize wrap64 (L:Int)=LL at HWW ⊢
          go_wp2_with fail
          all_goals
            go_ret
            refine ⟨?_,rfl⟩
            refine congrArg Ending.returned (congrArg (Value.int .i64) ?_)
            have e:=HWW.out
            have l2:=HLT2.out
            rw [HK.out]
            unfold LM.sg
            try unfold wrap64
            simp only [Nat.reducePow]
            split <;> omega
        · simp only [Nat.reducePow] at hlt
          have hw:wrap64 (L:Int)=(L:Int):=by unfold wrap64; omega
          have HLT2:Hid _:=hlt
          have HWW:Hid _:=hw
          have HK:Hid _:=hk
          clear hw hlt hd h1 h8 h7 HLT
          generalize wrap64 (L:Int)=LL at HWW ⊢
          go_wp2_with fail
          all_goals
            go_ret
            refine ⟨?_,rfl⟩
            refine congrArg Ending.returned (congrArg (Value.int .i64) ?_)
            have e:=HWW.out
            have l2:=HLT2.out
            rw [HK.out]
            unfold LM.sg
            try unfold wrap64
            simp only [Nat.reducePow]
            split <;> omega
        · simp only [Nat.reducePow] at hlt
          have hw:wrap64 (L:Int)=(L:Int):=by unfold wrap64; omega
          have HLT2:Hid _:=hlt
          have HWW:Hid _:=hw
          have HK:Hid _:=hk
          clear hw hlt hd h1 h8 h7 HLT
          generalize wrap64 (L:Int)=LL at HWW ⊢
          go_wp2_with fail
          all_goals
            go_ret
            refine ⟨?_,rfl⟩
            refine congrArg Ending.returned (congrArg (Value.int .i64) ?_)
            have e:=HWW.out
            have l2:=HLT2.out
            rw [HK.out]
            unfold LM.sg
            try unfold wrap64
            simp only [Nat.reducePow]
            split <;> omega
    · have hb:s.data.toList[j]?=some s[j]:=at_list s j hj
      have hln:=leN_drop s.data.toList j (by rw [list_len]; exact hj)
      have hbe:s.data.toList[j]'(by rw [list_len]; exact hj)=s[j]:=by
        have:=List.getElem?_eq_getElem (l:=s.data.toList) (i:=j) (by rw [list_len]; exact hj)
        rw [hb] at this; exact (Option.some.inj this).symm
      rw [hbe] at hln
      obtain ⟨c,hc⟩:∃ c:Nat,s[j].toNat=c:=⟨_,rfl⟩
      rw [hc] at hln
      have hc8:c < 256:=by rw [← hc]; exact s[j].toNat_lt
      generalize LM.leN (s.data.toList.drop (j + 1))=X at hln ⊢
      have HST:Hid _:=w64_step X c
      have HLN:Hid _:=hln
      have hz0:(0:Int) ≤ (j:Int):=by omega
      have hz1:(j:Int) < (s.size:Int):=by omega
      clear hln hbe hb
      go_wp2
      refine ⟨⟨by trivial,?_⟩,by simp [intOf]⟩
      by_cases h0:j=0
      · subst h0
        refine Or.inl ⟨rfl,?_⟩
        rw [HST.out,← HLN.out,List.drop_zero,HLL.out]
      · refine Or.inr ⟨j - 1,by omega,by congr 1; omega,?_⟩
        rw [show j - 1 + 1=j by omega,HST.out,HLN.out]
end Go.Proofs.YtijambehfobopaaGreatDoor
namespace Go.Proofs.YtijambehfobopaaGreatDoor
open Go.RowKit
set_option linter.unusedVariables false
theorem leN_zero (l:List UInt8):LM.leN (l ++ [0])=LM.leN l:=by rw [LM.leN_app]; simp [LM.leN]
def szT (l:List UInt8):Int × Int:=
  let f:=(l.getD 0 0).toNat
  if 128 ≤ f∧f < 192 then (1,(f:Int) - 128)
  else if 224 ≤ f∧f < 240∧2 ≤ l.length then (2,((f:Int) - 224) * 256 + ((l.getD 1 0).toNat:Int))
  else if f=240∧5 ≤ l.length then (5,(LM.leN ((l.drop 1).take 4):Nat))
  else (0,-1)
theorem getD_at (s:ByteArray) (j:Nat) (h:j < s.size):s.data.toList.getD j 0=s[j]:=by
  rw [List.getD_eq_getElem?_getD,at_list s j h]; rfl
set_option maxHeartbeats 2000000 in
set_option maxRecDepth 100000 in
theorem rsz_any (p:ByteArray) (hp:0 < p.size) (hs:p.size ≤ 281474976710656) (w:World) :
    Calls Tryz.prog 84 #[.string p] w fun e w'=>e=.returned (.tuple #[.int .i64 (szT p.data.toList).1,.int .i64 (szT p.data.toList).2])∧Below w.heap.size w w':=by
  obtain ⟨f,hf⟩:∃ f:Nat,p[0].toNat=f:=⟨_,rfl⟩
  have hf8:f < 256:=by rw [← hf]; exact p[0].toNat_lt
  have hS:szT p.data.toList=if 128 ≤ f∧f < 192 then (1,(f:Int) - 128) else if 224 ≤ f∧f < 240∧2 ≤ p.size then (2,((f:Int) - 224) * 256 + ((p.data.toList.getD 1 0).toNat:Int)) else if f=240∧5 ≤ p.size then (5,(LM.leN ((p.data.toList.drop 1).take 4):Nat)) else (0,-1):=by
    unfold szT; rw [getD_at p 0 hp,hf,list_len]
  have hz:(0:Int) < (p.size:Int):=by omega
  by_cases c1:128 ≤ f∧f < 192
  · rw [hS,if_pos c1]
    have h1:decide ((128:Int) ≤ (f:Int))=true:=by simp; omega
    have h2:decide ((f:Int) < 192)=true:=by simp; omega
    clear hS c1
    go_enter Tryz.func84,Tryz.ntmps84
    go_wp2
    go_ret2
    exact ⟨rfl,Below.refl _ _⟩
  · rw [hS,if_neg c1]
    clear hS
    by_cases r1:f < 128
    · rw [if_neg (by omega),if_neg (by omega)]
      have h1:decide ((128:Int) ≤ (f:Int))=false:=by simp; omega
      have h3:decide ((224:Int) ≤ (f:Int))=false:=by simp; omega
      have h5:((f:Int) == 240)=false:=by simp; omega
      have h6:¬ (f:Int)=240:=by omega
      clear c1 r1
      go_enter Tryz.func84,Tryz.ntmps84
      go_wp2
      go_ret2
      exact ⟨rfl,Below.refl _ _⟩
    have h1:decide ((128:Int) ≤ (f:Int))=true:=by simp; omega
    have h2:decide ((f:Int) < 192)=false:=by simp; omega
    by_cases r2:f < 224
    · rw [if_neg (by omega),if_neg (by omega)]
      have h3:decide ((224:Int) ≤ (f:Int))=false:=by simp; omega
      have h5:((f:Int) == 240)=false:=by simp; omega
      have h6:¬ (f:Int)=240:=by omega
      clear c1 r1 r2
      go_enter Tryz.func84,Tryz.ntmps84
      go_wp2
      go_ret2
      exact ⟨rfl,Below.refl _ _⟩
    have h3:decide ((224:Int) ≤ (f:Int))=true:=by simp; omega
    by_cases r3:f < 240
    · have h4:decide ((f:Int) < 240)=true:=by simp; omega
      by_cases l2:2 ≤ p.size
      · rw [if_pos (by omega)]
        have h7:decide ((2:Int) ≤ (p.size:Int))=true:=by simp; omega
        rw [getD_at p 1 (by omega)]
        obtain ⟨x,hx⟩:∃ x:Nat,p[1].toNat=x:=⟨_,rfl⟩
        have hx8:x < 256:=by rw [← hx]; exact p[1].toNat_lt
        rw [hx]
        have hz1:(1:Int) < (p.size:Int):=by omega
        clear c1 r1 r2
        go_enter Tryz.func84,Tryz.ntmps84
        go_wp2
        go_region
        all_goals
          go_wp2
          go_ret2
          exact ⟨rfl,below_dn (Below.refl _ _) 1⟩
      · rw [if_neg (by omega),if_neg (by omega)]
        have h7:decide ((2:Int) ≤ (p.size:Int))=false:=by simp; omega
        have h5:((f:Int) == 240)=false:=by simp; omega
        have h6:¬ (f:Int)=240:=by omega
        clear c1 r1 r2
        go_enter Tryz.func84,Tryz.ntmps84
        go_wp2
        go_ret2
        exact ⟨rfl,Below.refl _ _⟩
    have h4:decide ((f:Int) < 240)=false:=by simp; omega
    rw [if_neg (by omega)]
    by_cases r4:f=240
    · have h5:((f:Int) == 240)=true:=by simp; omega
      have h6:(f:Int)=240:=by omega
      by_cases l5:5 ≤ p.size
      · rw [if_pos ⟨r4,l5⟩]
        have h7:decide ((5:Int) ≤ (p.size:Int))=true:=by simp; omega
        obtain ⟨S,hS⟩:∃ S,p.extract 1 5=S:=⟨_,rfl⟩
        have hSl:S.data.toList=(p.data.toList.drop 1).take 4:=by rw [← hS,ext_any]
        have hSz:S.size=4:=by rw [← hS,ext_size _ _ _ l5]
        obtain ⟨S5,hS5⟩:∃ S5,S ++ (⟨#[0]⟩:ByteArray)=S5:=⟨_,rfl⟩
        have hS5l:S5.data.toList=S.data.toList ++ [0]:=by rw [← hS5]; simp
        have hS5z:S5.size=5:=by rw [← list_len,hS5l,List.length_append,list_len,hSz]; rfl
        have hlt:=LM.leN_lt S.data.toList
        rw [list_len,hSz] at hlt
        have HSG:Hid (∀ W,Calls Tryz.prog 83 #[.string S5] W fun e w'=>e=.returned (.int .i64 ((LM.leN ((p.data.toList.drop 1).take 4):Nat):Int))∧w'=W):=fun W=>by
          have:=rsg_any S5 (by omega) (by omega) W
          rw [hS5l,leN_zero,hS5z,hSl] at this
          rw [hSl] at hlt
          unfold LM.sg at this
          rw [if_pos (by simp only [Nat.reducePow] at hlt ⊢; omega)] at this
          exact this
        clear hSl hS5l hlt c1 r1 r2 r3
        generalize ((LM.leN ((p.data.toList.drop 1).take 4):Nat):Int)=V at HSG ⊢
        go_enter Tryz.func84,Tryz.ntmps84
        go_wp2_with fail
        refine (show Calls _ _ _ _ _ from HSG.out _).mono ?_
        rintro e w1 ⟨rfl,rfl⟩
        go_wp2
        go_ret2
        exact ⟨rfl,Below.refl _ _⟩
      · rw [if_neg (by omega)]
        have h7:decide ((5:Int) ≤ (p.size:Int))=false:=by simp; omega
        clear c1 r1 r2 r3
        go_enter Tryz.func84,Tryz.ntmps84
        go_wp2
        go_ret2
        exact ⟨rfl,Below.refl _ _⟩
    · rw [if_neg (by omega)]
      have h5:((f:Int) == 240)=false:=by simp; omega
      have h6:¬ (f:Int)=240:=by omega
      clear c1 r1 r2 r3
      go_enter Tryz.func84,Tryz.ntmps84
      go_wp2
      go_ret2
      exact ⟨rfl,Below.refl _ _⟩
end Go.Proofs.YtijambehfobopaaGreatDoor
