import Derived.Test.YtijambehfobopaaGreatDoorWAA
import Derived.Test.YtijambehfobopaaGreatDoorWAB
import Derived.RangeFuncOwn
import Derived.Test.YtijambehfobopaaGreatDoorShelf
import Derived.Laws.Bits64b
namespace Go.Proofs.YtijambehfobopaaGreatDoor
open Go.RowKit
set_option linter.unusedVariables false
def pch:List PanicEntry:=[{ v:=.iface 24 (.int .i64 60),recovered:=false }]
theorem must_ok (w:World):Calls Tryz.prog 105 #[.bool true] w fun e w'=>e=.returned (.tuple #[])∧w'=w:=by
  go_enter Tryz.func105,Tryz.ntmps105
  go_wp2
  go_end0
  exact ⟨rfl,rfl⟩
theorem must_bad (w:World):Calls Tryz.prog 105 #[.bool false] w fun e w'=>e=.panicked pch∧w'=w:=by
  go_enter Tryz.func105,Tryz.ntmps105
  go_wp2
  exact ⟨rfl,rfl,rfl⟩
theorem th_any (l:Nat) (h:l ≤ 9223372036854775807) (w:World):Calls Tryz.prog 147 #[.int .i64 (l:Int)] w fun e w'=>e=.returned (.int .i64 (LM.thead l:Nat))∧w'=w:=by
  have HT:Hid (LM.thead l=if l ≤ 63 then 1 else if l ≤ 4095 then 2 else 5):=rfl
  go_enter Tryz.func147,Tryz.ntmps147
  go_wp2
  · go_ret; refine ⟨?_,rfl⟩; rw [HT.out,if_pos (by omega)]; rfl
  · go_ret; refine ⟨?_,rfl⟩; rw [HT.out,if_neg (by omega),if_pos (by omega)]; rfl
  · go_ret; refine ⟨?_,rfl⟩; rw [HT.out,if_neg (by omega),if_neg (by omega)]; rfl
def sgn (c:Int) (n:Int):Int:=wrap64 (n * c) / c
theorem signed_13 (n:Int) (w:World):Calls Tryz.prog 143 #[.int .i64 n,.int .i64 13] w fun e w'=>e=.returned (.int .i64 (sgn 2251799813685248 n))∧w'=w:=by
  go_enter Tryz.func143,Tryz.ntmps143
  go_wp2
  go_ret
  exact ⟨rfl,rfl⟩
theorem signed_16 (n:Int) (w:World):Calls Tryz.prog 143 #[.int .i64 n,.int .i64 16] w fun e w'=>e=.returned (.int .i64 (sgn 281474976710656 n))∧w'=w:=by
  go_enter Tryz.func143,Tryz.ntmps143
  go_wp2
  go_ret
  exact ⟨rfl,rfl⟩
theorem signed_24 (n:Int) (w:World):Calls Tryz.prog 143 #[.int .i64 n,.int .i64 24] w fun e w'=>e=.returned (.int .i64 (sgn 1099511627776 n))∧w'=w:=by
  go_enter Tryz.func143,Tryz.ntmps143
  go_wp2
  go_ret
  exact ⟨rfl,rfl⟩
theorem signed_32 (n:Int) (w:World):Calls Tryz.prog 143 #[.int .i64 n,.int .i64 32] w fun e w'=>e=.returned (.int .i64 (sgn 4294967296 n))∧w'=w:=by
  go_enter Tryz.func143,Tryz.ntmps143
  go_wp2
  go_ret
  exact ⟨rfl,rfl⟩
theorem signed_64 (n:Int) (w:World):Calls Tryz.prog 143 #[.int .i64 n,.int .i64 64] w fun e w'=>e=.returned (.int .i64 (wrap64 n))∧w'=w:=by
  go_enter Tryz.func143,Tryz.ntmps143
  go_wp2
  go_ret
  exact ⟨rfl,rfl⟩
theorem fit_of {n c lo hi:Int} (h:(sgn c n == n)=decide (lo ≤ n∧n ≤ hi)):Ending.returned (Value.bool (sgn c n == n))=.returned (.bool (decide (lo ≤ n∧n ≤ hi))):=by rw [h]
theorem fits_13 (n:Int) (hn:LM.I64 n) (w:World):Calls Tryz.prog 158 #[.int .i64 n,.int .i64 13] w fun e w'=>e=.returned (.bool (decide (-4096 ≤ n∧n ≤ 4095)))∧w'=w:=by
  have H:Hid ((sgn 2251799813685248 n == n)=decide (-4096 ≤ n∧n ≤ 4095)):=by
    show _=_; rw [Bool.eq_iff_iff,beq_iff_eq,decide_eq_true_iff]; obtain ⟨h0,h1⟩:=hn; unfold sgn wrap64; omega
  go_enter Tryz.func158,Tryz.ntmps158
  go_wp2_with fail
  refine (signed_13 _ _).mono ?_
  rintro e w1 ⟨rfl,rfl⟩
  go_wp2
  go_ret
  exact ⟨fit_of H.out,rfl⟩
structure Wid (w:World):Prop where
  c0:w.cell? ⟨0,0,none⟩=some (.int .i64 2)
  c1:w.cell? ⟨0,1,none⟩=some (.int .i64 3)
  c2:w.cell? ⟨0,2,none⟩=some (.int .i64 4)
  c3:w.cell? ⟨0,3,none⟩=some (.int .i64 8)
theorem lt_of_cell {w:World} {a:Addr} {v:Value} (h:w.cell? a=some v):a.block < w.heap.size:=by
  obtain ⟨o,ho,_⟩:=cells_of_cell h; exact row_lt ho
theorem cell_on {w w':World} {a:Addr} {v:Value} (h:w.cell? a=some v) (hb:Below w.heap.size w w'):w'.cell? a=some v:=
  (hb.cell (p:=a) (lt_of_cell h)).trans h
theorem Wid.on {w w':World} (h:Wid w) (hb:Below w.heap.size w w'):Wid w':=⟨cell_on h.c0 hb,cell_on h.c1 hb,cell_on h.c2 hb,cell_on h.c3 hb⟩
def lw (n:Int):Nat:=if -32768 ≤ n∧n ≤ 32767 then 0 else if -8388608 ≤ n∧n ≤ 8388607 then 1 else if -2147483648 ≤ n∧n ≤ 2147483647 then 2 else 3
def wd (i:Nat):Nat:=if i=0 then 2 else if i=1 then 3 else if i=2 then 4 else 8
theorem dec_t {p:Prop} [Decidable p] (h:p):decide p=true:=by simpa using h
theorem dec_f {p:Prop} [Decidable p] (h:¬ p):decide p=false:=by simpa using h
theorem fitb (c n lo hi:Int) (h:wrap64 (n * c) / c=n ↔ (lo ≤ n∧n ≤ hi)):(wrap64 (n * c) / c == n)=decide (lo ≤ n∧n ≤ hi):=by
  rw [Bool.eq_iff_iff,beq_iff_eq,decide_eq_true_iff]; exact h
set_option maxHeartbeats 1000000 in
theorem least_any (n:Int) (hn:LM.I64 n) (w:World) (hw:Wid w):Calls Tryz.prog 159 #[.int .i64 n] w fun e w'=>e=.returned (.int .i64 (lw n:Nat))∧w'=w:=by
  obtain ⟨k0,k1,k2,k3⟩:=hw
  have HL:Hid (lw n=if -32768 ≤ n∧n ≤ 32767 then 0 else if -8388608 ≤ n∧n ≤ 8388607 then 1 else if -2147483648 ≤ n∧n ≤ 2147483647 then 2 else 3):=rfl
  have f1:=fitb 281474976710656 n (-32768) 32767 (by obtain ⟨h0,h1⟩:=hn; unfold wrap64; omega)
  have f2:=fitb 1099511627776 n (-8388608) 8388607 (by obtain ⟨h0,h1⟩:=hn; unfold wrap64; omega)
  have f3:=fitb 4294967296 n (-2147483648) 2147483647 (by obtain ⟨h0,h1⟩:=hn; unfold wrap64; omega)
  have f4:(wrap64 n == n)=true:=by rw [beq_iff_eq]; obtain ⟨h0,h1⟩:=hn; unfold wrap64; omega
  clear hn
  by_cases h1:-32768 ≤ n∧n ≤ 32767
  · rw [dec_t h1] at f1
    have HR:Hid (lw n=0):=by show _=_; rw [HL.out,if_pos h1]
    clear f2 f3 f4 h1
    go_enter Tryz.func159,Tryz.ntmps159
    go_wp2
    go_rounds 4
    go_ret
    exact ⟨by rw [HR.out]; rfl,rfl⟩
  rw [dec_f h1] at f1
  by_cases h2:-8388608 ≤ n∧n ≤ 8388607
  · rw [dec_t h2] at f2
    have HR:Hid (lw n=1):=by show _=_; rw [HL.out,if_neg h1,if_pos h2]
    clear f3 f4 h1 h2
    go_enter Tryz.func159,Tryz.ntmps159
    go_wp2
    go_rounds 4
    go_ret
    exact ⟨by rw [HR.out]; rfl,rfl⟩
  rw [dec_f h2] at f2
  by_cases h3:-2147483648 ≤ n∧n ≤ 2147483647
  · rw [dec_t h3] at f3
    have HR:Hid (lw n=2):=by show _=_; rw [HL.out,if_neg h1,if_neg h2,if_pos h3]
    clear f4 h1 h2 h3
    go_enter Tryz.func159,Tryz.ntmps159
    go_wp2
    go_rounds 4
    go_ret
    exact ⟨by rw [HR.out]; rfl,rfl⟩
  rw [dec_f h3] at f3
  have HR:Hid (lw n=3):=by show _=_; rw [HL.out,if_neg h1,if_neg h2,if_neg h3]
  clear h1 h2 h3
  go_enter Tryz.func159,Tryz.ntmps159
  go_wp2
  go_rounds 4
  go_ret
  exact ⟨by rw [HR.out]; rfl,rfl⟩
end Go.Proofs.YtijambehfobopaaGreatDoor
namespace Go.Proofs.YtijambehfobopaaGreatDoor
open Go.RowKit
set_option linter.unusedVariables false
theorem nsize_lw (n:Int) (h1:¬ (0 ≤ n∧n ≤ 127)) (h2:¬ (-4096 ≤ n∧n ≤ 4095)):LM.nsize n=1 + wd (lw n):=by
  unfold LM.nsize lw wd; rw [if_neg h1,if_neg h2]
  split
  · simp
  split
  · simp
  split
  · simp
  · simp
theorem wid_at {w:World} (h:Wid w) (i:Nat) (hi:i < 4):w.cell? ⟨0,i,none⟩=some (.int .i64 (wd i:Nat)):=by
  match i,hi with
  | 0,_=>exact h.c0
  | 1,_=>exact h.c1
  | 2,_=>exact h.c2
  | 3,_=>exact h.c3
theorem lw_lt (n:Int):lw n < 4:=by unfold lw; (repeat' split) <;> omega
theorem wd_le (i:Nat):wd i ≤ 8:=by unfold wd; (repeat' split) <;> omega
theorem nsz_any (n:Int) (hn:LM.I64 n) (w:World) (hw:Wid w):Calls Tryz.prog 146 #[.int .i64 n] w fun e w'=>e=.returned (.int .i64 (LM.nsize n:Nat))∧w'=w:=by
  have HN:Hid (LM.I64 n):=hn
  have HW:Hid (Wid w):=hw
  clear hn hw
  by_cases h1:0 ≤ n∧n ≤ 127
  · have HR:Hid (LM.nsize n=1):=by show _=_; unfold LM.nsize; rw [if_pos h1]
    have a0:=h1.1
    have a1:=h1.2
    clear h1
    go_enter Tryz.func146,Tryz.ntmps146
    go_wp2_with fail
    go_ret
    exact ⟨by rw [HR.out]; rfl,rfl⟩
  · have a0:decide (0 ≤ n)=false ∨ decide (n ≤ 127)=false:=by
      rcases (show ¬ 0 ≤ n ∨ ¬ n ≤ 127 by omega) with h | h
      · exact Or.inl (dec_f h)
      · exact Or.inr (dec_f h)
    by_cases h2:-4096 ≤ n∧n ≤ 4095
    · have HR:Hid (LM.nsize n=2):=by show _=_; unfold LM.nsize; rw [if_neg h1,if_pos h2]
      have ht:=dec_t h2
      rcases (show n < 0 ∨ (0 ≤ n∧127 < n) by omega) with c | ⟨c,c'⟩
      · clear h1 h2 a0
        go_enter Tryz.func146,Tryz.ntmps146
        go_wp2_with fail
        refine (fits_13 n HN.out _).mono ?_
        rintro e w1 ⟨rfl,rfl⟩
        rw [ht]
        go_wp2_with fail
        go_ret
        exact ⟨by rw [HR.out]; rfl,rfl⟩
      · clear h1 h2 a0
        go_enter Tryz.func146,Tryz.ntmps146
        go_wp2_with fail
        refine (fits_13 n HN.out _).mono ?_
        rintro e w1 ⟨rfl,rfl⟩
        rw [ht]
        go_wp2_with fail
        go_ret
        exact ⟨by rw [HR.out]; rfl,rfl⟩
    · have HR:Hid (LM.nsize n=1 + wd (lw n)):=nsize_lw n h1 h2
      have ht:=dec_f h2
      have hc:=wid_at HW.out (lw n) (lw_lt n)
      have hl:=lw_lt n
      have hd:=wd_le (lw n)
      rcases (show n < 0 ∨ (0 ≤ n∧127 < n) by omega) with c | ⟨c,c'⟩
      · clear h1 h2 a0
        go_enter Tryz.func146,Tryz.ntmps146
        go_wp2_with fail
        refine (fits_13 n HN.out _).mono ?_
        rintro e w1 ⟨rfl,rfl⟩
        rw [ht]
        go_wp2_with fail
        refine (least_any n HN.out _ HW.out).mono ?_
        rintro e w2 ⟨rfl,rfl⟩
        go_wp2
        go_ret
        refine ⟨?_,rfl⟩
        rw [HR.out]
        exact ret_int (by omega)
      · clear h1 h2 a0
        go_enter Tryz.func146,Tryz.ntmps146
        go_wp2_with fail
        refine (fits_13 n HN.out _).mono ?_
        rintro e w1 ⟨rfl,rfl⟩
        rw [ht]
        go_wp2_with fail
        refine (least_any n HN.out _ HW.out).mono ?_
        rintro e w2 ⟨rfl,rfl⟩
        go_wp2
        go_ret
        refine ⟨?_,rfl⟩
        rw [HR.out]
        exact ret_int (by omega)
end Go.Proofs.YtijambehfobopaaGreatDoor
namespace Go.Proofs.YtijambehfobopaaGreatDoor
open Go.RowKit
set_option linter.unusedVariables false
theorem of64 (z:Nat) (h:z < 18446744073709551616):(BitVec.ofInt 64 (wrap64 (z:Int))).toNat=z:=by
  rw [BitVec.toNat_ofInt]; unfold wrap64
  have:((((z:Int) + 9223372036854775808) % 18446744073709551616 - 9223372036854775808) % ((2 ^ 64:Nat):Int))=(z:Int):=by
    rw [show ((2 ^ 64:Nat):Int)=18446744073709551616 by decide]; omega
  rw [this]; omega
theorem w64_wrap (x:Int):IntKind.i64.wrap x=wrap64 x:=by rw [IntKind.wrap_i64]; unfold wrap64; rfl
theorem or64 (x b k:Nat) (hx:x < 2 ^ k) (hk:k ≤ 56) (hb:b < 256):bits .or .i64 (wrap64 (x:Int)) (wrap64 ((b * 2 ^ k:Nat):Int))=wrap64 ((x + b * 2 ^ k:Nat):Int):=by
  have h56:(2:Nat) ^ k ≤ 2 ^ 56:=Nat.pow_le_pow_right (by omega) hk
  have e56:(2:Nat) ^ 56=72057594037927936:=by decide
  have hm:b * 2 ^ k ≤ 255 * 2 ^ k:=Nat.mul_le_mul_right _ (by omega)
  show IntKind.i64.wrap ((BitVec.ofInt 64 (wrap64 (x:Int)) ||| BitVec.ofInt 64 (wrap64 ((b * 2 ^ k:Nat):Int))).toNat:Int)=_
  rw [BitVec.toNat_or,of64 _ (by omega),of64 _ (by omega),w64_wrap]
  have h2:=Nat.two_pow_add_eq_or_of_lt hx b
  rw [Nat.or_comm,Nat.mul_comm b,← h2,Nat.add_comm]
theorem leN_snoc (l:List UInt8) (b:UInt8):LM.leN (l ++ [b])=LM.leN l + b.toNat * 256 ^ l.length:=by
  rw [LM.leN_app]; simp only [LM.leN]; rw [Nat.mul_comm]; rfl
theorem take_more (l:List UInt8) (i:Nat) (b:UInt8) (h:l[i]?=some b):l.take (i + 1)=l.take i ++ [b]:=by
  obtain ⟨hi,e⟩:=List.getElem?_eq_some_iff.1 h
  rw [List.take_succ_eq_append_getElem hi,e]
theorem low_step (s:ByteArray) (i:Nat) (h:i < s.size) (h8:i < 8) :
    bits .or .i64 (wrap64 (LM.leN (s.data.toList.take i):Nat)) (wrap64 ((s[i].toNat * 2 ^ (8 * i):Nat):Int))=wrap64 (LM.leN (s.data.toList.take (i + 1)):Nat):=by
  have hl:(s.data.toList.take i).length=i:=by rw [List.length_take,list_len]; omega
  have hlt:=LM.leN_lt (s.data.toList.take i)
  have e:(256:Nat) ^ i=2 ^ (8 * i):=by rw [Nat.pow_mul]
  rw [hl,e] at hlt
  rw [take_more _ i s[i] (at_list s i h),leN_snoc,hl,e]
  exact or64 _ _ _ hlt (by omega) s[i].toNat_lt
set_option maxHeartbeats 4000000 in
set_option maxRecDepth 100000 in
theorem low_any (s:ByteArray) (h:s.size ≤ 8) (w:World):Calls Tryz.prog 106 #[.string s] w fun e w'=>e=.returned (.int .i64 (wrap64 (LM.leN s.data.toList:Nat)))∧w'=w:=by
  go_enter Tryz.func106,Tryz.ntmps106
  go_wp2
  go_loop [3,7,4,8,9,10,11,12,13,14,15,16,17,18,19] (fun n c _ _ _ _ _ _ _ _ _ _ _ _ _=>∃ i:Nat,i ≤ s.size∧c=.int .i64 (i:Int)∧n=.int .i64 (wrap64 (LM.leN (s.data.toList.take i):Nat))) (fun _ c _ _ _ _ _ _ _ _ _ _ _ _ _=>s.size - (intOf c).toNat)
  case atStart=>exact ⟨0,by omega,rfl,by simp [LM.leN,wrap64]⟩
  case round =>
    obtain ⟨i,hi,rfl,rfl⟩:=hrel
    by_cases hc:i=s.size
    · subst hc
      have HT:Hid (s.data.toList.take s.size=s.data.toList):=by show _=_; rw [List.take_of_length_le (by rw [list_len]; omega)]
      go_wp2
      go_ret
      refine ⟨?_,rfl⟩
      show Ending.returned (.int .i64 (wrap64 (LM.leN (s.data.toList.take s.size):Nat)))=_
      rw [HT.out]
    · have hlt:i < s.size:=by omega
      have hst:=low_step s i hlt (by omega)
      generalize LM.leN (s.data.toList.take i)=X at hst
      generalize hY:LM.leN (s.data.toList.take (i + 1))=Y at hst
      have HY:Hid _:=hY
      clear hY
      obtain ⟨c,hcb⟩:∃ c:Nat,s[i].toNat=c:=⟨_,rfl⟩
      have hc8:c < 256:=by rw [← hcb]; exact s[i].toNat_lt
      have hw:wrap64 (c:Int)=c:=by unfold wrap64; omega
      rw [hcb] at hst
      have h8:i < 8:=by omega
      rcases (show i=0 ∨ i=1 ∨ i=2 ∨ i=3 ∨ i=4 ∨ i=5 ∨ i=6 ∨ i=7 by omega) with rfl | rfl | rfl | rfl | rfl | rfl | rfl | rfl
      all_goals
        simp only [Nat.reduceMul,Nat.reducePow,Int.natCast_mul] at hst
        have HST:Hid _:=hst
        clear hst
        go_wp2
        go_round
        case measure=>simp [intOf]; omega
        refine ⟨_,hlt,rfl,?_⟩
        rw [HY.out]
        refine congrArg (Value.int .i64) ?_
        refine Eq.trans ?_ HST.out
        congr 1
      all_goals (unfold wrap64; omega)
theorem or8 (a b:Nat) (ha:a < 256) (hb:b < 256):bits .or .i64 ((a * 256:Nat):Int) (b:Int)=((a * 256 + b:Nat):Int):=by
  have h:=or64 b a 8 (by omega) (by omega) ha
  have e1:wrap64 (b:Int)=b:=by unfold wrap64; omega
  have e2:wrap64 ((a * 2 ^ 8:Nat):Int)=((a * 256:Nat):Int):=by unfold wrap64; omega
  rw [e1,e2] at h
  have hc:bits .or .i64 ((a * 256:Nat):Int) (b:Int)=bits .or .i64 (b:Int) ((a * 256:Nat):Int):=by
    show IntKind.i64.wrap ((BitVec.ofInt 64 _ ||| BitVec.ofInt 64 _).toNat:Int)=IntKind.i64.wrap ((BitVec.ofInt 64 _ ||| BitVec.ofInt 64 _).toNat:Int)
    rw [BitVec.or_comm]
  rw [hc,h]; unfold wrap64; omega
theorem or0 (b:Nat) (hb:b < 256):bits .or .i64 0 (b:Int)=(b:Int):=by
  have h:=or8 0 b (by omega) hb
  simpa using h
set_option maxHeartbeats 1000000 in
theorem high_2 (s:ByteArray) (h:s.size=2) (w:World):Calls Tryz.prog 144 #[.string s] w fun e w'=>e=.returned (.int .i64 (((s.data.toList.getD 0 0).toNat * 256 + (s.data.toList.getD 1 0).toNat:Nat):Int))∧w'=w:=by
  have l0:0 < s.size:=by omega
  have l1:1 < s.size:=by omega
  have g0:s.data.toList.getD 0 0=s[0]:=by rw [List.getD_eq_getElem?_getD,at_list s 0 l0]; rfl
  have g1:s.data.toList.getD 1 0=s[1]:=by rw [List.getD_eq_getElem?_getD,at_list s 1 l1]; rfl
  obtain ⟨c0,e0⟩:∃ c:Nat,s[0].toNat=c:=⟨_,rfl⟩
  obtain ⟨c1,e1⟩:∃ c:Nat,s[1].toNat=c:=⟨_,rfl⟩
  have b0:c0 < 256:=by rw [← e0]; exact s[0].toNat_lt
  have b1:c1 < 256:=by rw [← e1]; exact s[1].toNat_lt
  have o0:=or0 c0 b0
  have o1:=or8 c0 c1 b0 b1
  rw [show ((c0 * 256:Nat):Int)=(c0:Int) * 256 by omega] at o1
  have HG:Hid (((s.data.toList.getD 0 0).toNat * 256 + (s.data.toList.getD 1 0).toNat:Nat)=c0 * 256 + c1):=by show _=_; rw [g0,g1,e0,e1]
  clear g0 g1
  go_enter Tryz.func144,Tryz.ntmps144
  go_wp2
  go_rounds 3
  go_wp2
  go_ret
  exact ⟨by rw [HG.out]; rfl,rfl⟩
end Go.Proofs.YtijambehfobopaaGreatDoor
