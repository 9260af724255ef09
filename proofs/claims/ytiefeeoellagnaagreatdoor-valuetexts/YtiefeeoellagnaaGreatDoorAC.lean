import Derived.Test.YtiefeeoellagnaaGreatDoorAA
import Derived.Test.YtiefeeoellagnaaGreatDoorAB
namespace Go.Proofs.YtiefeeoellagnaaGreatDoor.S6
open Go.RowKit
set_option linter.unusedVariables false
structure Lay (w:World):Prop where
  laid:Laid w
  wid:Wid w
theorem Lay.on {w w':World} (h:Lay w) (hb:Below w.heap.size w w'):Lay w':=⟨h.laid.on hb,h.wid.on hb⟩
theorem numI_any (n:Int) (w:World):Calls Tryz.prog 348 #[.int .i64 n] w fun e w'=>e=.returned (.agg #[.string ⟨#[]⟩,.int .i64 n,.bool true])∧Below w.heap.size w w':=by
  go_enter Tryz.func348,Tryz.ntmps348
  go_wp2
  refine bodyPost_ret (v:=.agg #[.string ⟨#[]⟩,.int .i64 n,.bool true]) (by simp [results,Tryz.results348,go_sem]) rfl ⟨rfl,?_⟩
  go_grown
theorem numOf_any (s:ByteArray) (hs:s.size ≤ 281474976710656) (w:World) (hL:Laid w) :
    Calls Tryz.prog 347 #[.string s] w fun e w'=>e=.returned (numT s.data.toList)∧Below w.heap.size w w':=by
  have HL:Hid (Laid w):=hL
  clear hL
  by_cases h:20 < s.size
  · have HN:Hid (numT s.data.toList=.tuple #[.int .i64 0,.bool false]):=by
      refine numT_none ?_
      cases hn:Vi.numberOf s.data.toList with
      | none=>rfl
      | some v =>
        obtain ⟨e1,e2,e3,_⟩:=Vi.numberOf_some hn
        have:=LM.itoa_short v ⟨e2,e3⟩
        rw [e1,list_len] at this; omega
    go_enter Tryz.func347,Tryz.ntmps347
    go_wp2_with fail
    go_ret2
    exact ⟨by rw [HN.out]; rfl,Below.refl _ _⟩
  · have h':s.size ≤ 20:=by omega
    go_enter Tryz.func347,Tryz.ntmps347
    go_wp2_with fail
    refine (number_any s (by omega) _ HL.out).mono ?_
    rintro e w1 ⟨rfl,hb1⟩
    cases hn:Vi.numberOf s.data.toList with
    | none =>
      have HN:Hid (numT s.data.toList=.tuple #[.int .i64 0,.bool false]):=numT_none hn
      rw [HN.out]
      go_wp2
      go_ret2
      exact ⟨by rw [HN.out]; rfl,hb1⟩
    | some v =>
      have HN:Hid (numT s.data.toList=.tuple #[.int .i64 v,.bool true]):=numT_some hn
      rw [HN.out]
      go_wp2
      go_ret2
      exact ⟨by rw [HN.out]; rfl,hb1⟩
theorem itemOf_any (s:ByteArray) (hs:s.size ≤ 281474976710656) (w:World) (hL:Laid w) :
    Calls Tryz.prog 298 #[.string s] w fun e w'=>e=.returned (encI (LM.itemOf s.data.toList))∧Below w.heap.size w w':=by
  have HL:Hid (Laid w):=hL
  clear hL
  cases hn:Vi.numberOf s.data.toList with
  | none =>
    have HN:Hid (numT s.data.toList=.tuple #[.int .i64 0,.bool false]):=numT_none hn
    have HI:Hid (encI (LM.itemOf s.data.toList)=.agg #[.string s,.int .i64 0,.bool false]):=by show _=_; unfold LM.itemOf; rw [hn]; rfl
    go_enter Tryz.func298,Tryz.ntmps298
    go_wp2_with fail
    refine (numOf_any s hs _ (HL.out.on ((Below.refl _ w).alloc (Nat.le_refl _) _))).mono ?_
    rintro e w1 ⟨rfl,hb1⟩
    have HG1:Hid (w1.heap[w.heap.size]?=some (.cells #[.string ⟨#[]⟩,.int .i64 0,.bool false] 385)):=keep_row (one_alloc w _) hb1
    have HB1:Hid (Below w.heap.size w w1):=bel_to ((Below.refl _ w).alloc (Nat.le_refl _) _) hb1 (Nat.le_refl _)
    obtain ⟨d0,d1,d2,df⟩:=row3 HG1.out
    clear hb1
    rw [HN.out]
    go_wp2
    obtain ⟨hF3,hO3⟩:=heap_set3 w1 w.heap.size 385 _ _ _ (.string s) (.int .i64 0) (.bool false) HG1.out
    obtain ⟨k0,k1,k2,kf⟩:=row3 hF3
    refine bodyPost_ret (v:=.agg #[.string s,.int .i64 0,.bool false]) (by simp [results,Tryz.results298,go_sem,k0,k1,k2]) rfl ⟨?_,?_⟩
    · rw [HI.out]
    · exact HB1.out.trans (hO3.below (Nat.le_refl _))
  | some v =>
    have HN:Hid (numT s.data.toList=.tuple #[.int .i64 v,.bool true]):=numT_some hn
    have HI:Hid (encI (LM.itemOf s.data.toList)=.agg #[.string ⟨#[]⟩,.int .i64 v,.bool true]):=by show _=_; unfold LM.itemOf; rw [hn]; rfl
    go_enter Tryz.func298,Tryz.ntmps298
    go_wp2_with fail
    refine (numOf_any s hs _ (HL.out.on ((Below.refl _ w).alloc (Nat.le_refl _) _))).mono ?_
    rintro e w1 ⟨rfl,hb1⟩
    have HG1:Hid (w1.heap[w.heap.size]?=some (.cells #[.string ⟨#[]⟩,.int .i64 0,.bool false] 385)):=keep_row (one_alloc w _) hb1
    have HB1:Hid (Below w.heap.size w w1):=bel_to ((Below.refl _ w).alloc (Nat.le_refl _) _) hb1 (Nat.le_refl _)
    clear hb1
    rw [HN.out]
    go_wp2_with fail
    refine (numI_any v _).mono ?_
    rintro e w2 ⟨rfl,hb2⟩
    have HG2:Hid (w2.heap[w.heap.size]?=some (.cells #[.string ⟨#[]⟩,.int .i64 0,.bool false] 385)):=keep_row HG1.out hb2
    have HB2:Hid (Below w.heap.size w w2):=bel_to HB1.out hb2 (Nat.le_refl _)
    obtain ⟨d0,d1,d2,df⟩:=row3 HG2.out
    clear hb2
    go_wp2
    obtain ⟨hF3,hO3⟩:=heap_set3 w2 w.heap.size 385 _ _ _ (.string ⟨#[]⟩) (.int .i64 v) (.bool true) HG2.out
    obtain ⟨k0,k1,k2,kf⟩:=row3 hF3
    refine bodyPost_ret (v:=.agg #[.string ⟨#[]⟩,.int .i64 v,.bool true]) (by simp [results,Tryz.results298,go_sem,k0,k1,k2]) rfl ⟨?_,?_⟩
    · rw [HI.out]
    · exact HB2.out.trans (hO3.below (Nat.le_refl _))
theorem value_num (n:Int) (t:ByteArray) (hn:LM.I64 n) (w:World) (hL:Laid w):Calls Tryz.prog 259 #[.agg #[.string t,.int .i64 n,.bool true]] w fun e w'=>e=.returned (.string (itoaB n))∧Below w.heap.size w w':=by
  have HL:Hid (Laid w):=hL
  have HN:Hid (LM.I64 n):=hn
  clear hL hn
  go_enter Tryz.func259,Tryz.ntmps259
  go_wp2_with fail
  refine (digits_any n HN.out.1 HN.out.2 _ (HL.out.on ((Below.refl _ w).alloc (Nat.le_refl _) _))).mono ?_
  rintro e w1 ⟨rfl,hb1⟩
  have HB:Hid (Below w.heap.size w w1):=((Below.refl _ w).alloc (Nat.le_refl _) _).trans (hb1.mono (by simp))
  clear hb1
  go_wp2
  go_ret
  exact ⟨rfl,HB.out⟩
theorem clone_any (t:ByteArray) (h:t.size ≤ 281474976710656) (w:World):Calls Tryz.prog 77 #[.string t] w fun e w'=>e=.returned (.string t)∧Below w.heap.size w w':=by
  go_enter Tryz.func77,Tryz.ntmps77
  go_wp2_with fail
  refine (Tryz.stringslite_Clone t _ h).mono ?_
  rintro e w1 ⟨rfl,hb1⟩
  go_wp2
  go_ret
  exact ⟨rfl,hb1⟩
theorem value_txt (n:Int) (t:ByteArray) (h:t.size ≤ 281474976710656) (w:World):Calls Tryz.prog 259 #[.agg #[.string t,.int .i64 n,.bool false]] w fun e w'=>e=.returned (.string t)∧Below w.heap.size w w':=by
  go_enter Tryz.func259,Tryz.ntmps259
  go_wp2_with fail
  refine (clone_any t h _).mono ?_
  rintro e w1 ⟨rfl,hb1⟩
  have HB:Hid (Below w.heap.size w w1):=((Below.refl _ w).alloc (Nat.le_refl _) _).trans (hb1.mono (by simp))
  clear hb1
  go_wp2
  go_ret
  exact ⟨rfl,HB.out⟩
theorem value_any (it:LM.Item) (h:LM.Wf it) (w:World) (hL:Laid w):Calls Tryz.prog 259 #[encI it] w fun e w'=>e=.returned (.string (strB (LM.val it)))∧Below w.heap.size w w':=by
  obtain ⟨t,n,b⟩:=it
  rcases h with ⟨h1,h2,h3⟩ | ⟨h1,h2,h3,h4⟩
  · simp only at h1 h2 h3; subst h1
    exact value_num n _ h3 w hL
  · simp only at h1 h2 h3 h4; subst h1
    exact value_txt n _ (by rw [strB_size]; exact Nat.le_trans h4 (by decide)) w
end Go.Proofs.YtiefeeoellagnaaGreatDoor.S6
namespace Go.Proofs.YtiefeeoellagnaaGreatDoor.S6
open Go.RowKit
set_option linter.unusedVariables false
set_option maxHeartbeats 1000000 in
theorem rdT_any (s:ByteArray) (h L:Nat) (hh:h ≤ s.size) (hs:s.size ≤ 4294967296) (hL:L ≤ 4294967296) (w:World) :
    Calls Tryz.prog 365 #[.string s,.int .i64 h,.int .i64 L] w fun e w'=>e=out (outI (LM.txtAt s.data.toList h L))∧Below w.heap.size w w':=by
  by_cases hc:h + L ≤ s.size
  · have HR:Hid (out (outI (LM.txtAt s.data.toList h L))=.returned (.tuple #[.agg #[.string (strB ((s.data.toList.drop h).take L)),.int .i64 0,.bool false],.int .i64 (h + L:Nat)])):=by
      show _=_; unfold LM.txtAt; rw [if_pos (by rw [list_len]; exact hc)]; rfl
    go_enter Tryz.func365,Tryz.ntmps365
    go_wp2_with fail
    refine (cut_ok s h L hc (by omega) _).mono ?_
    rintro e w1 ⟨rfl,hw1⟩
    have HG1:Hid (w1.heap[w.heap.size]?=some (.cells #[.string ⟨#[]⟩,.int .i64 0,.bool false] 385)):=by rw [hw1]; exact one_alloc w _
    have HB1:Hid (Below w.heap.size w w1):=by rw [hw1]; exact (Below.refl _ w).alloc (Nat.le_refl _) _
    obtain ⟨d0,d1,d2,df⟩:=row3 HG1.out
    clear hw1
    go_wp2
    obtain ⟨hF3,hO3⟩:=heap_set3 w1 w.heap.size 385 _ _ _ (.string (strB ((s.data.toList.drop h).take L))) (.int .i64 0) (.bool false) HG1.out
    obtain ⟨k0,k1,k2,kf⟩:=row3 hF3
    refine bodyPost_ret (v:=.tuple #[.agg #[.string (strB ((s.data.toList.drop h).take L)),.int .i64 0,.bool false],.int .i64 ((h:Int) + (L:Int))]) (by simp [results,Tryz.results365,go_sem,k0,k1,k2]) rfl ⟨?_,?_⟩
    · rw [HR.out,show ((h + L:Nat):Int)=(h:Int) + L by omega]
    · exact HB1.out.trans (hO3.below (Nat.le_refl _))
  · have HR:Hid (out (outI (LM.txtAt s.data.toList h L))=.panicked pch):=by
      show _=_; unfold LM.txtAt; rw [if_neg (by rw [list_len]; exact hc)]; rfl
    go_enter Tryz.func365,Tryz.ntmps365
    go_wp2_with fail
    refine (cut_bad s h L (by omega) hh (by omega) _).mono ?_
    rintro e w1 ⟨rfl,hw1⟩
    exact ⟨rfl,HR.out.symm,by rw [hw1]; exact (Below.refl _ w).alloc (Nat.le_refl _) _⟩
theorem rd_at (s:ByteArray) (h:0 < s.size):LM.rdItem s.data.toList=LM.rdF s[0].toNat s.data.toList:=by
  have:=drop_at s 0 h
  rw [List.drop_zero] at this
  rw [this]; rfl
theorem sgn13 (b c:Nat) (hb:b < 256) (hc:c < 256):sgn 2251799813685248 ((b * 256 + c:Nat):Int)=LM.s13 (b * 256 + c):=by
  unfold sgn LM.s13 wrap64; split <;> omega
theorem and12 (x:Nat) (h:x < 65536):bits .and .i64 (x:Int) 4095=((x % 4096:Nat):Int):=by
  show IntKind.i64.wrap ((BitVec.ofInt 64 (x:Int) &&& BitVec.ofInt 64 ((4095:Nat):Int)).toNat:Int)=_
  have e1:(BitVec.ofInt 64 (x:Int)).toNat=x:=by rw [BitVec.ofInt_natCast,BitVec.toNat_ofNat]; exact Nat.mod_eq_of_lt (by omega)
  have e2:(BitVec.ofInt 64 ((4095:Nat):Int)).toNat=4095:=by rw [BitVec.ofInt_natCast,BitVec.toNat_ofNat]
  rw [BitVec.toNat_and,e1,e2,show (4095:Nat)=2 ^ 12 - 1 by decide,Nat.and_two_pow_sub_one_eq_mod,w64_wrap]
  unfold wrap64; omega
theorem sg_low (c k:Nat) (K:Int) (l:List UInt8) (hl:l.length=k) (hk:k < 8) (hK:K * ((256 ^ k:Nat):Int)=18446744073709551616) (hK0:0 < K):sgn K (wrap64 (LM.leN l:Nat))=LM.sg k (LM.leN l):=by
  have hlt:=LM.leN_lt l
  rw [hl] at hlt
  have h7:(256:Nat) ^ k ≤ 256 ^ 7:=Nat.pow_le_pow_right (by omega) (by omega)
  have e7:(256:Nat) ^ 7=72057594037927936:=by decide
  generalize LM.leN l=x at *
  have e1:wrap64 (x:Int)=x:=by unfold wrap64; omega
  rw [e1]
  unfold sgn LM.sg
  generalize 256 ^ k=M at *
  have hM:(0:Int) < M:=by
    rcases Nat.eq_zero_or_pos M with h | h
    · rw [h] at hlt; omega
    · omega
  by_cases hc:2 * x < M
  · rw [if_pos hc]
    have h1:wrap64 ((x:Int) * K)=(x:Int) * K:=by
      have:2 * ((x:Int) * K) < 18446744073709551616:=by
        have h9:(x:Int) * 2 * K < M * K:=Int.mul_lt_mul_of_pos_right (by omega) hK0
        rw [← hK,Int.mul_comm K,show 2 * ((x:Int) * K)=(x:Int) * 2 * K by rw [← Int.mul_assoc,Int.mul_comm 2]]
        exact h9
      have h0:0 ≤ (x:Int) * K:=Int.mul_nonneg (by omega) (by omega)
      unfold wrap64; omega
    rw [h1,Int.mul_ediv_cancel _ (by omega)]
  · rw [if_neg hc]
    have h1:wrap64 ((x:Int) * K)=((x:Int) - M) * K:=by
      have h2:18446744073709551616 ≤ 2 * ((x:Int) * K):=by
        rw [← hK,Int.mul_comm K]
        have:(M:Int) * K ≤ (x:Int) * 2 * K:=Int.mul_le_mul_of_nonneg_right (by omega) (by omega)
        rw [show 2 * ((x:Int) * K)=(x:Int) * 2 * K by rw [← Int.mul_assoc,Int.mul_comm 2]]
        exact this
      have h3:(x:Int) * K < 18446744073709551616:=by
        rw [← hK,Int.mul_comm K]
        exact Int.mul_lt_mul_of_pos_right (by omega) hK0
      rw [Int.sub_mul,Int.mul_comm (M:Int),hK]
      unfold wrap64; omega
    rw [h1,Int.mul_ediv_cancel _ (by omega)]
theorem sg_low8 (l:List UInt8) (hl:l.length=8):wrap64 (wrap64 (LM.leN l:Nat))=LM.sg 8 (LM.leN l):=by
  have hlt:=LM.leN_lt l
  rw [hl,show (256:Nat) ^ 8=18446744073709551616 by decide] at hlt
  unfold LM.sg; rw [show (256:Nat) ^ 8=18446744073709551616 by decide]
  unfold wrap64; split <;> omega
set_option maxHeartbeats 2000000 in
set_option maxRecDepth 100000 in
theorem rdI_n7 (s:ByteArray) (h0:0 < s.size) (hs:s.size ≤ 4294967296) (w:World) (hw:Wid w) (hc:s[0].toNat < 128) :
    Calls Tryz.prog 321 #[.string s] w fun e w'=>e=out (outI (LM.rdItem s.data.toList))∧Below w.heap.size w w':=by
  have HW:Hid (Wid w):=hw
  have hR:=rd_at s h0
  obtain ⟨f,hf⟩:∃ f:Nat,s[0].toNat=f:=⟨_,rfl⟩
  have hf8:f < 256:=by rw [← hf]; exact s[0].toNat_lt
  rw [hf] at hR hc
  unfold LM.rdF at hR
  clear hw
  rw [if_pos hc] at hR
  have HR:Hid _:=hR
  clear hR
  have hcv:wrap64 (f:Int)=f:=by unfold wrap64; omega
  go_enter Tryz.func321,Tryz.ntmps321
  go_wp2_with fail
  refine (numI_any _ _).mono ?_
  rintro e w2 ⟨rfl,hbx⟩
  have HG1:Hid ((w.alloc (.cells #[.string ⟨#[]⟩,.int .i64 0,.bool false] 385)).heap[w.heap.size]?=some (.cells #[.string ⟨#[]⟩,.int .i64 0,.bool false] 385)):=one_alloc w _
  have HB1:Hid (Below w.heap.size w (w.alloc (.cells #[.string ⟨#[]⟩,.int .i64 0,.bool false] 385))):=(Below.refl _ w).alloc (Nat.le_refl _) _
  have HGx:Hid (w2.heap[w.heap.size]?=some (.cells #[.string ⟨#[]⟩,.int .i64 0,.bool false] 385)):=keep_row HG1.out hbx
  have HBx:Hid (Below w.heap.size w w2):=bel_to HB1.out hbx (Nat.le_refl _)
  obtain ⟨d0,d1,d2,df⟩:=row3 HGx.out
  clear hbx
  go_wp2
  obtain ⟨hF3,hO3⟩:=heap_set3 w2 w.heap.size 385 _ _ _ (.string ⟨#[]⟩) (.int .i64 (f:Int)) (.bool true) HGx.out
  obtain ⟨k0,k1,k2,kf⟩:=row3 hF3
  refine bodyPost_ret (v:=.tuple #[.agg #[.string ⟨#[]⟩,.int .i64 (f:Int),.bool true],.int .i64 1]) (by simp [results,Tryz.results321,go_sem,k0,k1,k2]) rfl ⟨?_,HBx.out.trans (hO3.below (Nat.le_refl _))⟩
  rw [HR.out]; rfl
set_option maxHeartbeats 2000000 in
set_option maxRecDepth 100000 in
theorem rdI_t6 (s:ByteArray) (h0:0 < s.size) (hs:s.size ≤ 4294967296) (w:World) (hw:Wid w) (hc:128 ≤ s[0].toNat∧s[0].toNat < 192) :
    Calls Tryz.prog 321 #[.string s] w fun e w'=>e=out (outI (LM.rdItem s.data.toList))∧Below w.heap.size w w':=by
  have HW:Hid (Wid w):=hw
  have hR:=rd_at s h0
  obtain ⟨f,hf⟩:∃ f:Nat,s[0].toNat=f:=⟨_,rfl⟩
  have hf8:f < 256:=by rw [← hf]; exact s[0].toNat_lt
  rw [hf] at hR hc
  unfold LM.rdF at hR
  clear hw
  obtain ⟨c1,c2⟩:=hc
  rw [if_neg (by omega),if_pos c2] at hR
  obtain ⟨L,hL⟩:∃ L:Nat,f - 128=L:=⟨_,rfl⟩
  have hu:(f:Int) - 128=(L:Int):=by omega
  have hL8:L < 64:=by omega
  rw [hL] at hR
  clear hL
  have hT:=fun W=>rdT_any s 1 L (by omega) hs (by omega) W
  rw [hR]
  cases hx:LM.txtAt s.data.toList 1 L with
  | none =>
    rw [hx] at hT
    have HT:Hid (∀ W,Calls Tryz.prog 365 #[.string s,.int .i64 1,.int .i64 (L:Int)] W fun e w'=>e=.panicked pch∧Below W.heap.size W w'):=hT
    have HR:Hid (out (outI none)=.panicked pch):=rfl
    clear hT hx hR
    go_enter Tryz.func321,Tryz.ntmps321
    go_wp2_with fail
    have HG1:Hid ((w.alloc (.cells #[.string ⟨#[]⟩,.int .i64 0,.bool false] 385)).heap[w.heap.size]?=some (.cells #[.string ⟨#[]⟩,.int .i64 0,.bool false] 385)):=one_alloc w _
    have HB1:Hid (Below w.heap.size w (w.alloc (.cells #[.string ⟨#[]⟩,.int .i64 0,.bool false] 385))):=(Below.refl _ w).alloc (Nat.le_refl _) _
    refine (show Calls _ _ _ _ _ from HT.out _).mono ?_
    rintro e w5 ⟨rfl,hbx⟩
    have HBx:Hid (Below w.heap.size w w5):=bel_to HB1.out hbx (Nat.le_refl _)
    exact ⟨rfl,by rw [HR.out],HBx.out⟩
  | some x =>
    obtain ⟨⟨t,m,b⟩,n⟩:=x
    obtain ⟨T,hTT⟩:∃ T,strB t=T:=⟨_,rfl⟩
    have HR:Hid (out (outI (some ((⟨t,m,b⟩:LM.Item),n)))=.returned (.tuple #[.agg #[.string T,.int .i64 m,.bool b],.int .i64 (n:Int)])):=by show _=_; rw [← hTT]; rfl
    rw [hx] at hT
    have HT:Hid (∀ W,Calls Tryz.prog 365 #[.string s,.int .i64 1,.int .i64 (L:Int)] W fun e w'=>e=.returned (.tuple #[.agg #[.string T,.int .i64 m,.bool b],.int .i64 (n:Int)])∧Below W.heap.size W w'):=fun W=>by
      rw [← HR.out]; exact hT W
    clear hT hx hR hTT
    go_enter Tryz.func321,Tryz.ntmps321
    go_wp2_with fail
    have HG1:Hid ((w.alloc (.cells #[.string ⟨#[]⟩,.int .i64 0,.bool false] 385)).heap[w.heap.size]?=some (.cells #[.string ⟨#[]⟩,.int .i64 0,.bool false] 385)):=one_alloc w _
    have HB1:Hid (Below w.heap.size w (w.alloc (.cells #[.string ⟨#[]⟩,.int .i64 0,.bool false] 385))):=(Below.refl _ w).alloc (Nat.le_refl _) _
    refine (show Calls _ _ _ _ _ from HT.out _).mono ?_
    rintro e w5 ⟨rfl,hbx⟩
    have HGx:Hid (w5.heap[w.heap.size]?=some (.cells #[.string ⟨#[]⟩,.int .i64 0,.bool false] 385)):=keep_row HG1.out hbx
    have HBx:Hid (Below w.heap.size w w5):=bel_to HB1.out hbx (Nat.le_refl _)
    obtain ⟨d0,d1,d2,df⟩:=row3 HGx.out
    clear hbx
    go_wp2
    obtain ⟨hF3,hO3⟩:=heap_set3 w5 w.heap.size 385 _ _ _ (.string T) (.int .i64 m) (.bool b) HGx.out
    obtain ⟨k0,k1,k2,kf⟩:=row3 hF3
    refine bodyPost_ret (v:=.tuple #[.agg #[.string T,.int .i64 m,.bool b],.int .i64 n]) (by simp [results,Tryz.results321,go_sem,k0,k1,k2]) rfl ⟨?_,HBx.out.trans (hO3.below (Nat.le_refl _))⟩
    rw [HR.out]
set_option maxHeartbeats 2000000 in
set_option maxRecDepth 100000 in
theorem rdI_n13 (s:ByteArray) (h0:0 < s.size) (hs:s.size ≤ 4294967296) (w:World) (hw:Wid w) (hc:192 ≤ s[0].toNat∧s[0].toNat < 224) :
    Calls Tryz.prog 321 #[.string s] w fun e w'=>e=out (outI (LM.rdItem s.data.toList))∧Below w.heap.size w w':=by
  have HW:Hid (Wid w):=hw
  have hR:=rd_at s h0
  obtain ⟨f,hf⟩:∃ f:Nat,s[0].toNat=f:=⟨_,rfl⟩
  have hf8:f < 256:=by rw [← hf]; exact s[0].toNat_lt
  rw [hf] at hR hc
  unfold LM.rdF at hR
  clear hw
  obtain ⟨c1,c2⟩:=hc
  rw [if_neg (by omega),if_neg (by omega),if_pos c2] at hR
  by_cases h2:2 ≤ s.size
  · rw [if_pos (by rw [list_len]; exact h2)] at hR
    have HE:Hid ((strB ((s.data.toList.drop 0).take 2)).size=2):=by show _=_; rw [strB_size,List.length_take,List.length_drop,list_len]; omega
    have g0:(strB ((s.data.toList.drop 0).take 2)).data.toList.getD 0 0=s[0]:=by rw [strB_list,List.drop_zero,List.getD_eq_getElem?_getD,List.getElem?_take_of_lt (by omega),at_list s 0 h0]; rfl
    have g1:(strB ((s.data.toList.drop 0).take 2)).data.toList.getD 1 0=s.data.toList.getD 1 0:=by rw [strB_list,List.drop_zero,List.getD_eq_getElem?_getD,List.getElem?_take_of_lt (by omega),List.getD_eq_getElem?_getD]
    have hgl:=(s.data.toList.getD 1 0).toNat_lt
    have hc2:=fun W=>cut_ok s 0 2 (by omega) (by omega) W
    have hs2:=fun W=>high_2 _ HE.out W
    rw [g0,g1,hf] at hs2
    obtain ⟨U,hU⟩:∃ U:Nat,f * 256 + (s.data.toList.getD 1 0).toNat=U:=⟨_,rfl⟩
    obtain ⟨C,hC⟩:∃ C,strB ((s.data.toList.drop 0).take 2)=C:=⟨_,rfl⟩
    rw [hU,hC] at hs2
    rw [hC] at hc2
    have HS:Hid (∀ W,Calls Tryz.prog 367 #[.string C] W fun e w'=>e=.returned (.int .i64 (U:Int))∧w'=W):=hs2
    have HC:Hid (∀ W,Calls Tryz.prog 364 #[.string s,.int .i64 0,.int .i64 2] W fun e w'=>e=.returned (.string C)∧w'=W):=hc2
    have hUl:U < 65536:=by omega
    rw [hU] at hR
    have hq:sgn 2251799813685248 (U:Int)=LM.s13 U:=by rw [← hU]; exact sgn13 f (s.data.toList.getD 1 0).toNat hf8 hgl
    obtain ⟨N,hN⟩:∃ N,LM.s13 U=N:=⟨_,rfl⟩
    rw [hN] at hq hR
    have HQ:Hid (∀ W,Calls Tryz.prog 366 #[.int .i64 (U:Int),.int .i64 13] W fun e w'=>e=.returned (.int .i64 N)∧w'=W):=fun W=>by
      have:=signed_13 (U:Int) W
      rw [hq] at this
      exact this
    have HR:Hid _:=hR
    clear hR hs2 hc2 hU hC HE g0 g1 hgl hq hN
    go_enter Tryz.func321,Tryz.ntmps321
    go_wp2_with fail
    refine (show Calls _ _ _ _ _ from HC.out _).mono ?_
    rintro e w1 ⟨rfl,hw1⟩
    have HG1:Hid (w1.heap[w.heap.size]?=some (.cells #[.string ⟨#[]⟩,.int .i64 0,.bool false] 385)):=by rw [hw1]; exact one_alloc w _
    have HB1:Hid (Below w.heap.size w w1):=by rw [hw1]; exact (Below.refl _ w).alloc (Nat.le_refl _) _
    clear hw1
    go_wp2_with fail
    refine (show Calls _ _ _ _ _ from HS.out _).mono ?_
    rintro e w2 ⟨rfl,hw2⟩
    subst w2
    go_wp2_with fail
    refine (show Calls _ _ _ _ _ from HQ.out _).mono ?_
    rintro e w2 ⟨rfl,hw2⟩
    subst w2
    go_wp2_with fail
    refine (numI_any _ _).mono ?_
    rintro e w2 ⟨rfl,hbx⟩
    have HGx:Hid (w2.heap[w.heap.size]?=some (.cells #[.string ⟨#[]⟩,.int .i64 0,.bool false] 385)):=keep_row HG1.out hbx
    have HBx:Hid (Below w.heap.size w w2):=bel_to HB1.out hbx (Nat.le_refl _)
    obtain ⟨d0,d1,d2,df⟩:=row3 HGx.out
    clear hbx
    go_wp2
    obtain ⟨hF3,hO3⟩:=heap_set3 w2 w.heap.size 385 _ _ _ (.string ⟨#[]⟩) (.int .i64 N) (.bool true) HGx.out
    obtain ⟨k0,k1,k2,kf⟩:=row3 hF3
    refine bodyPost_ret (v:=.tuple #[.agg #[.string ⟨#[]⟩,.int .i64 N,.bool true],.int .i64 2]) (by simp [results,Tryz.results321,go_sem,k0,k1,k2]) rfl ⟨?_,HBx.out.trans (hO3.below (Nat.le_refl _))⟩
    rw [HR.out]; rfl
  · rw [if_neg (by rw [list_len]; omega)] at hR
    have HR:Hid _:=hR
    clear hR
    go_enter Tryz.func321,Tryz.ntmps321
    go_wp2_with fail
    refine (cut_bad s 0 2 (by omega) (by omega) (by omega) _).mono ?_
    rintro e w1 ⟨rfl,hw1⟩
    exact ⟨rfl,by rw [HR.out]; rfl,by rw [hw1]; exact (Below.refl _ w).alloc (Nat.le_refl _) _⟩
set_option maxHeartbeats 2000000 in
set_option maxRecDepth 100000 in
theorem rdI_t12 (s:ByteArray) (h0:0 < s.size) (hs:s.size ≤ 4294967296) (w:World) (hw:Wid w) (hc:224 ≤ s[0].toNat∧s[0].toNat < 240) :
    Calls Tryz.prog 321 #[.string s] w fun e w'=>e=out (outI (LM.rdItem s.data.toList))∧Below w.heap.size w w':=by
  have HW:Hid (Wid w):=hw
  have hR:=rd_at s h0
  obtain ⟨f,hf⟩:∃ f:Nat,s[0].toNat=f:=⟨_,rfl⟩
  have hf8:f < 256:=by rw [← hf]; exact s[0].toNat_lt
  rw [hf] at hR hc
  unfold LM.rdF at hR
  clear hw
  obtain ⟨c1,c2⟩:=hc
  rw [if_neg (by omega),if_neg (by omega),if_neg (by omega),if_pos c2] at hR
  by_cases h2:2 ≤ s.size
  · rw [if_pos (by rw [list_len]; exact h2)] at hR
    have HE:Hid ((strB ((s.data.toList.drop 0).take 2)).size=2):=by show _=_; rw [strB_size,List.length_take,List.length_drop,list_len]; omega
    have g0:(strB ((s.data.toList.drop 0).take 2)).data.toList.getD 0 0=s[0]:=by rw [strB_list,List.drop_zero,List.getD_eq_getElem?_getD,List.getElem?_take_of_lt (by omega),at_list s 0 h0]; rfl
    have g1:(strB ((s.data.toList.drop 0).take 2)).data.toList.getD 1 0=s.data.toList.getD 1 0:=by rw [strB_list,List.drop_zero,List.getD_eq_getElem?_getD,List.getElem?_take_of_lt (by omega),List.getD_eq_getElem?_getD]
    have hgl:=(s.data.toList.getD 1 0).toNat_lt
    have hc2:=fun W=>cut_ok s 0 2 (by omega) (by omega) W
    have hs2:=fun W=>high_2 _ HE.out W
    rw [g0,g1,hf] at hs2
    obtain ⟨U,hU⟩:∃ U:Nat,f * 256 + (s.data.toList.getD 1 0).toNat=U:=⟨_,rfl⟩
    obtain ⟨C,hC⟩:∃ C,strB ((s.data.toList.drop 0).take 2)=C:=⟨_,rfl⟩
    rw [hU,hC] at hs2
    rw [hC] at hc2
    have HS:Hid (∀ W,Calls Tryz.prog 367 #[.string C] W fun e w'=>e=.returned (.int .i64 (U:Int))∧w'=W):=hs2
    have HC:Hid (∀ W,Calls Tryz.prog 364 #[.string s,.int .i64 0,.int .i64 2] W fun e w'=>e=.returned (.string C)∧w'=W):=hc2
    have hUl:U < 65536:=by omega
    rw [hU] at hR
    have hq:=and12 U hUl
    obtain ⟨L,hL⟩:∃ L:Nat,U % 4096=L:=⟨_,rfl⟩
    rw [hL] at hq hR
    have hL4:L < 4096:=by omega
    clear hs2 hc2 hU hC HE g0 g1 hgl hL
    have hT:=fun W=>rdT_any s 2 L h2 hs (by omega) W
    rw [hR]
    cases hx:LM.txtAt s.data.toList 2 L with
    | none =>
      rw [hx] at hT
      have HT:Hid (∀ W,Calls Tryz.prog 365 #[.string s,.int .i64 2,.int .i64 (L:Int)] W fun e w'=>e=.panicked pch∧Below W.heap.size W w'):=hT
      have HR:Hid (out (outI none)=.panicked pch):=rfl
      clear hT hx hR
      go_enter Tryz.func321,Tryz.ntmps321
      go_wp2_with fail
      refine (show Calls _ _ _ _ _ from HC.out _).mono ?_
      rintro e w1 ⟨rfl,hw1⟩
      have HG1:Hid (w1.heap[w.heap.size]?=some (.cells #[.string ⟨#[]⟩,.int .i64 0,.bool false] 385)):=by rw [hw1]; exact one_alloc w _
      have HB1:Hid (Below w.heap.size w w1):=by rw [hw1]; exact (Below.refl _ w).alloc (Nat.le_refl _) _
      clear hw1
      go_wp2_with fail
      refine (show Calls _ _ _ _ _ from HS.out _).mono ?_
      rintro e w2 ⟨rfl,hw2⟩
      subst w2
      go_wp2_with fail
      refine (show Calls _ _ _ _ _ from HT.out _).mono ?_
      rintro e w5 ⟨rfl,hbx⟩
      have HBx:Hid (Below w.heap.size w w5):=bel_to HB1.out hbx (Nat.le_refl _)
      exact ⟨rfl,by rw [HR.out],HBx.out⟩
    | some x =>
      obtain ⟨⟨t,m,b⟩,n⟩:=x
      obtain ⟨T,hTT⟩:∃ T,strB t=T:=⟨_,rfl⟩
      have HR:Hid (out (outI (some ((⟨t,m,b⟩:LM.Item),n)))=.returned (.tuple #[.agg #[.string T,.int .i64 m,.bool b],.int .i64 (n:Int)])):=by show _=_; rw [← hTT]; rfl
      rw [hx] at hT
      have HT:Hid (∀ W,Calls Tryz.prog 365 #[.string s,.int .i64 2,.int .i64 (L:Int)] W fun e w'=>e=.returned (.tuple #[.agg #[.string T,.int .i64 m,.bool b],.int .i64 (n:Int)])∧Below W.heap.size W w'):=fun W=>by
        rw [← HR.out]; exact hT W
      clear hT hx hR hTT
      go_enter Tryz.func321,Tryz.ntmps321
      go_wp2_with fail
      refine (show Calls _ _ _ _ _ from HC.out _).mono ?_
      rintro e w1 ⟨rfl,hw1⟩
      have HG1:Hid (w1.heap[w.heap.size]?=some (.cells #[.string ⟨#[]⟩,.int .i64 0,.bool false] 385)):=by rw [hw1]; exact one_alloc w _
      have HB1:Hid (Below w.heap.size w w1):=by rw [hw1]; exact (Below.refl _ w).alloc (Nat.le_refl _) _
      clear hw1
      go_wp2_with fail
      refine (show Calls _ _ _ _ _ from HS.out _).mono ?_
      rintro e w2 ⟨rfl,hw2⟩
      subst w2
      go_wp2_with fail
      refine (show Calls _ _ _ _ _ from HT.out _).mono ?_
      rintro e w5 ⟨rfl,hbx⟩
      have HGx:Hid (w5.heap[w.heap.size]?=some (.cells #[.string ⟨#[]⟩,.int .i64 0,.bool false] 385)):=keep_row HG1.out hbx
      have HBx:Hid (Below w.heap.size w w5):=bel_to HB1.out hbx (Nat.le_refl _)
      obtain ⟨d0,d1,d2,df⟩:=row3 HGx.out
      clear hbx
      go_wp2
      obtain ⟨hF3,hO3⟩:=heap_set3 w5 w.heap.size 385 _ _ _ (.string T) (.int .i64 m) (.bool b) HGx.out
      obtain ⟨k0,k1,k2,kf⟩:=row3 hF3
      refine bodyPost_ret (v:=.tuple #[.agg #[.string T,.int .i64 m,.bool b],.int .i64 n]) (by simp [results,Tryz.results321,go_sem,k0,k1,k2]) rfl ⟨?_,HBx.out.trans (hO3.below (Nat.le_refl _))⟩
      rw [HR.out]
  · rw [if_neg (by rw [list_len]; omega)] at hR
    have HR:Hid _:=hR
    clear hR
    go_enter Tryz.func321,Tryz.ntmps321
    go_wp2_with fail
    refine (cut_bad s 0 2 (by omega) (by omega) (by omega) _).mono ?_
    rintro e w1 ⟨rfl,hw1⟩
    exact ⟨rfl,by rw [HR.out]; rfl,by rw [hw1]; exact (Below.refl _ w).alloc (Nat.le_refl _) _⟩
set_option maxHeartbeats 2000000 in
set_option maxRecDepth 100000 in
theorem rdI_t32 (s:ByteArray) (h0:0 < s.size) (hs:s.size ≤ 4294967296) (w:World) (hw:Wid w) (hc:s[0].toNat=240) :
    Calls Tryz.prog 321 #[.string s] w fun e w'=>e=out (outI (LM.rdItem s.data.toList))∧Below w.heap.size w w':=by
  have HW:Hid (Wid w):=hw
  have hR:=rd_at s h0
  obtain ⟨f,hf⟩:∃ f:Nat,s[0].toNat=f:=⟨_,rfl⟩
  have hf8:f < 256:=by rw [← hf]; exact s[0].toNat_lt
  rw [hf] at hR hc
  unfold LM.rdF at hR
  clear hw
  rw [if_neg (by omega),if_neg (by omega),if_neg (by omega),if_neg (by omega),if_pos hc] at hR
  by_cases h2:5 ≤ s.size
  · rw [if_pos (by rw [list_len]; exact h2)] at hR
    have HE:Hid ((strB ((s.data.toList.drop 1).take 4)).size=4):=by show _=_; rw [strB_size,List.length_take,List.length_drop,list_len]; omega
    have hlt:=LM.leN_lt ((s.data.toList.drop 1).take 4)
    rw [show ((s.data.toList.drop 1).take 4).length=4 by rw [List.length_take,List.length_drop,list_len]; omega] at hlt
    have hc2:=fun W=>cut_ok s 1 4 (by omega) (by omega) W
    have hs2:=fun W=>low_any _ (by rw [HE.out]; omega) W
    rw [strB_list] at hs2
    obtain ⟨C,hC⟩:∃ C,strB ((s.data.toList.drop 1).take 4)=C:=⟨_,rfl⟩
    rw [hC] at hs2
    rw [hC] at hc2
    have HC:Hid (∀ W,Calls Tryz.prog 364 #[.string s,.int .i64 1,.int .i64 4] W fun e w'=>e=.returned (.string C)∧w'=W):=hc2
    obtain ⟨L,hL⟩:∃ L:Nat,LM.leN ((s.data.toList.drop 1).take 4)=L:=⟨_,rfl⟩
    rw [hL] at hlt hs2 hR
    have hLl:L < 4294967296:=hlt
    rw [show wrap64 (L:Int)=(L:Int) by unfold wrap64; omega] at hs2
    have HS:Hid (∀ W,Calls Tryz.prog 318 #[.string C] W fun e w'=>e=.returned (.int .i64 (L:Int))∧w'=W):=hs2
    clear hs2 hc2 hC HE hL hlt
    have hT:=fun W=>rdT_any s 5 L h2 hs (by omega) W
    rw [hR]
    cases hx:LM.txtAt s.data.toList 5 L with
    | none =>
      rw [hx] at hT
      have HT:Hid (∀ W,Calls Tryz.prog 365 #[.string s,.int .i64 5,.int .i64 (L:Int)] W fun e w'=>e=.panicked pch∧Below W.heap.size W w'):=hT
      have HR:Hid (out (outI none)=.panicked pch):=rfl
      clear hT hx hR
      go_enter Tryz.func321,Tryz.ntmps321
      go_wp2_with fail
      refine (show Calls _ _ _ _ _ from HC.out _).mono ?_
      rintro e w1 ⟨rfl,hw1⟩
      have HG1:Hid (w1.heap[w.heap.size]?=some (.cells #[.string ⟨#[]⟩,.int .i64 0,.bool false] 385)):=by rw [hw1]; exact one_alloc w _
      have HB1:Hid (Below w.heap.size w w1):=by rw [hw1]; exact (Below.refl _ w).alloc (Nat.le_refl _) _
      clear hw1
      go_wp2_with fail
      refine (show Calls _ _ _ _ _ from HS.out _).mono ?_
      rintro e w2 ⟨rfl,hw2⟩
      subst w2
      go_wp2_with fail
      refine (show Calls _ _ _ _ _ from HT.out _).mono ?_
      rintro e w5 ⟨rfl,hbx⟩
      have HBx:Hid (Below w.heap.size w w5):=bel_to HB1.out hbx (Nat.le_refl _)
      exact ⟨rfl,by rw [HR.out],HBx.out⟩
    | some x =>
      obtain ⟨⟨t,m,b⟩,n⟩:=x
      obtain ⟨T,hTT⟩:∃ T,strB t=T:=⟨_,rfl⟩
      have HR:Hid (out (outI (some ((⟨t,m,b⟩:LM.Item),n)))=.returned (.tuple #[.agg #[.string T,.int .i64 m,.bool b],.int .i64 (n:Int)])):=by show _=_; rw [← hTT]; rfl
      rw [hx] at hT
      have HT:Hid (∀ W,Calls Tryz.prog 365 #[.string s,.int .i64 5,.int .i64 (L:Int)] W fun e w'=>e=.returned (.tuple #[.agg #[.string T,.int .i64 m,.bool b],.int .i64 (n:Int)])∧Below W.heap.size W w'):=fun W=>by
        rw [← HR.out]; exact hT W
      clear hT hx hR hTT
      go_enter Tryz.func321,Tryz.ntmps321
      go_wp2_with fail
      refine (show Calls _ _ _ _ _ from HC.out _).mono ?_
      rintro e w1 ⟨rfl,hw1⟩
      have HG1:Hid (w1.heap[w.heap.size]?=some (.cells #[.string ⟨#[]⟩,.int .i64 0,.bool false] 385)):=by rw [hw1]; exact one_alloc w _
      have HB1:Hid (Below w.heap.size w w1):=by rw [hw1]; exact (Below.refl _ w).alloc (Nat.le_refl _) _
      clear hw1
      go_wp2_with fail
      refine (show Calls _ _ _ _ _ from HS.out _).mono ?_
      rintro e w2 ⟨rfl,hw2⟩
      subst w2
      go_wp2_with fail
      refine (show Calls _ _ _ _ _ from HT.out _).mono ?_
      rintro e w5 ⟨rfl,hbx⟩
      have HGx:Hid (w5.heap[w.heap.size]?=some (.cells #[.string ⟨#[]⟩,.int .i64 0,.bool false] 385)):=keep_row HG1.out hbx
      have HBx:Hid (Below w.heap.size w w5):=bel_to HB1.out hbx (Nat.le_refl _)
      obtain ⟨d0,d1,d2,df⟩:=row3 HGx.out
      clear hbx
      go_wp2
      obtain ⟨hF3,hO3⟩:=heap_set3 w5 w.heap.size 385 _ _ _ (.string T) (.int .i64 m) (.bool b) HGx.out
      obtain ⟨k0,k1,k2,kf⟩:=row3 hF3
      refine bodyPost_ret (v:=.tuple #[.agg #[.string T,.int .i64 m,.bool b],.int .i64 n]) (by simp [results,Tryz.results321,go_sem,k0,k1,k2]) rfl ⟨?_,HBx.out.trans (hO3.below (Nat.le_refl _))⟩
      rw [HR.out]
  · rw [if_neg (by rw [list_len]; omega)] at hR
    have HR:Hid _:=hR
    clear hR
    go_enter Tryz.func321,Tryz.ntmps321
    go_wp2_with fail
    refine (cut_bad s 1 4 (by omega) (by omega) (by omega) _).mono ?_
    rintro e w1 ⟨rfl,hw1⟩
    exact ⟨rfl,by rw [HR.out]; rfl,by rw [hw1]; exact (Below.refl _ w).alloc (Nat.le_refl _) _⟩
set_option maxHeartbeats 2000000 in
set_option maxRecDepth 100000 in
theorem rdI_w2 (s:ByteArray) (h0:0 < s.size) (hs:s.size ≤ 4294967296) (w:World) (hw:Wid w) (hc:s[0].toNat=241) :
    Calls Tryz.prog 321 #[.string s] w fun e w'=>e=out (outI (LM.rdItem s.data.toList))∧Below w.heap.size w w':=by
  have HW:Hid (Wid w):=hw
  have hR:=rd_at s h0
  obtain ⟨f,hf⟩:∃ f:Nat,s[0].toNat=f:=⟨_,rfl⟩
  have hf8:f < 256:=by rw [← hf]; exact s[0].toNat_lt
  rw [hf] at hR hc
  unfold LM.rdF at hR
  clear hw
  rw [if_neg (by omega),if_neg (by omega),if_neg (by omega),if_neg (by omega),if_neg (by omega),if_pos hc] at hR
  subst hc
  have k0:=(HW.out.on ((Below.refl _ w).alloc (Nat.le_refl _) (.cells #[.string ⟨#[]⟩,.int .i64 0,.bool false] 385))).c0
  unfold LM.numAt at hR
  by_cases h2:3 ≤ s.size
  · rw [if_pos (by rw [list_len]; omega)] at hR
    have HE:Hid ((strB ((s.data.toList.drop 1).take 2)).size=2):=by show _=_; rw [strB_size,List.length_take,List.length_drop,list_len]; omega
    have hlt:=LM.leN_lt ((s.data.toList.drop 1).take 2)
    rw [show ((s.data.toList.drop 1).take 2).length=2 by rw [List.length_take,List.length_drop,list_len]; omega] at hlt
    have hc2:=fun W=>cut_ok s 1 2 (by omega) (by omega) W
    have hs2:=fun W=>low_any _ (by rw [HE.out]; omega) W
    rw [strB_list] at hs2
    obtain ⟨C,hC⟩:∃ C,strB ((s.data.toList.drop 1).take 2)=C:=⟨_,rfl⟩
    rw [hC] at hs2
    rw [hC] at hc2
    have HC:Hid (∀ W,Calls Tryz.prog 364 #[.string s,.int .i64 1,.int .i64 2] W fun e w'=>e=.returned (.string C)∧w'=W):=hc2
    have hq:=sg_low 0 2 281474976710656 ((s.data.toList.drop 1).take 2) (by rw [List.length_take,List.length_drop,list_len]; omega) (by omega) (by decide) (by decide)
    obtain ⟨X,hX⟩:∃ X,wrap64 (LM.leN ((s.data.toList.drop 1).take 2):Nat)=X:=⟨_,rfl⟩
    obtain ⟨N,hN⟩:∃ N,LM.sg 2 (LM.leN ((s.data.toList.drop 1).take 2))=N:=⟨_,rfl⟩
    rw [hX] at hq hs2
    rw [hN] at hq hR
    have HS:Hid (∀ W,Calls Tryz.prog 318 #[.string C] W fun e w'=>e=.returned (.int .i64 X)∧w'=W):=hs2
    have HQ:Hid (∀ W,Calls Tryz.prog 366 #[.int .i64 X,.int .i64 16] W fun e w'=>e=.returned (.int .i64 N)∧w'=W):=fun W=>by
      have:=signed_16 X W
      rw [hq] at this
      exact this
    have HR:Hid _:=hR
    clear hR hs2 hc2 hC HE hX hN hq hlt
    go_enter Tryz.func321,Tryz.ntmps321
    go_wp2_with fail
    refine (show Calls _ _ _ _ _ from HC.out _).mono ?_
    rintro e w1 ⟨rfl,hw1⟩
    have HG1:Hid (w1.heap[w.heap.size]?=some (.cells #[.string ⟨#[]⟩,.int .i64 0,.bool false] 385)):=by rw [hw1]; exact one_alloc w _
    have HB1:Hid (Below w.heap.size w w1):=by rw [hw1]; exact (Below.refl _ w).alloc (Nat.le_refl _) _
    clear hw1
    go_wp2_with fail
    refine (show Calls _ _ _ _ _ from HS.out _).mono ?_
    rintro e w2 ⟨rfl,hw2⟩
    subst w2
    go_wp2_with fail
    refine (show Calls _ _ _ _ _ from HQ.out _).mono ?_
    rintro e w2 ⟨rfl,hw2⟩
    subst w2
    go_wp2_with fail
    refine (numI_any _ _).mono ?_
    rintro e w2 ⟨rfl,hbx⟩
    have HGx:Hid (w2.heap[w.heap.size]?=some (.cells #[.string ⟨#[]⟩,.int .i64 0,.bool false] 385)):=keep_row HG1.out hbx
    have HBx:Hid (Below w.heap.size w w2):=bel_to HB1.out hbx (Nat.le_refl _)
    obtain ⟨d0,d1,d2,df⟩:=row3 HGx.out
    clear hbx
    clear k0
    go_wp2
    obtain ⟨hF3,hO3⟩:=heap_set3 w2 w.heap.size 385 _ _ _ (.string ⟨#[]⟩) (.int .i64 N) (.bool true) HGx.out
    obtain ⟨k0,k1,k2,kf⟩:=row3 hF3
    refine bodyPost_ret (v:=.tuple #[.agg #[.string ⟨#[]⟩,.int .i64 N,.bool true],.int .i64 3]) (by simp [results,Tryz.results321,go_sem,k0,k1,k2]) rfl ⟨?_,HBx.out.trans (hO3.below (Nat.le_refl _))⟩
    rw [HR.out]; rfl
  · rw [if_neg (by rw [list_len]; omega)] at hR
    have HR:Hid _:=hR
    clear hR
    go_enter Tryz.func321,Tryz.ntmps321
    go_wp2_with fail
    refine (cut_bad s 1 2 (by omega) (by omega) (by omega) _).mono ?_
    rintro e w1 ⟨rfl,hw1⟩
    exact ⟨rfl,by rw [HR.out]; rfl,by rw [hw1]; exact (Below.refl _ w).alloc (Nat.le_refl _) _⟩
set_option maxHeartbeats 2000000 in
set_option maxRecDepth 100000 in
theorem rdI_w3 (s:ByteArray) (h0:0 < s.size) (hs:s.size ≤ 4294967296) (w:World) (hw:Wid w) (hc:s[0].toNat=242) :
    Calls Tryz.prog 321 #[.string s] w fun e w'=>e=out (outI (LM.rdItem s.data.toList))∧Below w.heap.size w w':=by
  have HW:Hid (Wid w):=hw
  have hR:=rd_at s h0
  obtain ⟨f,hf⟩:∃ f:Nat,s[0].toNat=f:=⟨_,rfl⟩
  have hf8:f < 256:=by rw [← hf]; exact s[0].toNat_lt
  rw [hf] at hR hc
  unfold LM.rdF at hR
  clear hw
  rw [if_neg (by omega),if_neg (by omega),if_neg (by omega),if_neg (by omega),if_neg (by omega),if_neg (by omega),if_pos hc] at hR
  subst hc
  have k0:=(HW.out.on ((Below.refl _ w).alloc (Nat.le_refl _) (.cells #[.string ⟨#[]⟩,.int .i64 0,.bool false] 385))).c1
  unfold LM.numAt at hR
  by_cases h2:4 ≤ s.size
  · rw [if_pos (by rw [list_len]; omega)] at hR
    have HE:Hid ((strB ((s.data.toList.drop 1).take 3)).size=3):=by show _=_; rw [strB_size,List.length_take,List.length_drop,list_len]; omega
    have hlt:=LM.leN_lt ((s.data.toList.drop 1).take 3)
    rw [show ((s.data.toList.drop 1).take 3).length=3 by rw [List.length_take,List.length_drop,list_len]; omega] at hlt
    have hc2:=fun W=>cut_ok s 1 3 (by omega) (by omega) W
    have hs2:=fun W=>low_any _ (by rw [HE.out]; omega) W
    rw [strB_list] at hs2
    obtain ⟨C,hC⟩:∃ C,strB ((s.data.toList.drop 1).take 3)=C:=⟨_,rfl⟩
    rw [hC] at hs2
    rw [hC] at hc2
    have HC:Hid (∀ W,Calls Tryz.prog 364 #[.string s,.int .i64 1,.int .i64 3] W fun e w'=>e=.returned (.string C)∧w'=W):=hc2
    have hq:=sg_low 0 3 1099511627776 ((s.data.toList.drop 1).take 3) (by rw [List.length_take,List.length_drop,list_len]; omega) (by omega) (by decide) (by decide)
    obtain ⟨X,hX⟩:∃ X,wrap64 (LM.leN ((s.data.toList.drop 1).take 3):Nat)=X:=⟨_,rfl⟩
    obtain ⟨N,hN⟩:∃ N,LM.sg 3 (LM.leN ((s.data.toList.drop 1).take 3))=N:=⟨_,rfl⟩
    rw [hX] at hq hs2
    rw [hN] at hq hR
    have HS:Hid (∀ W,Calls Tryz.prog 318 #[.string C] W fun e w'=>e=.returned (.int .i64 X)∧w'=W):=hs2
    have HQ:Hid (∀ W,Calls Tryz.prog 366 #[.int .i64 X,.int .i64 24] W fun e w'=>e=.returned (.int .i64 N)∧w'=W):=fun W=>by
      have:=signed_24 X W
      rw [hq] at this
      exact this
    have HR:Hid _:=hR
    clear hR hs2 hc2 hC HE hX hN hq hlt
    go_enter Tryz.func321,Tryz.ntmps321
    go_wp2_with fail
    refine (show Calls _ _ _ _ _ from HC.out _).mono ?_
    rintro e w1 ⟨rfl,hw1⟩
    have HG1:Hid (w1.heap[w.heap.size]?=some (.cells #[.string ⟨#[]⟩,.int .i64 0,.bool false] 385)):=by rw [hw1]; exact one_alloc w _
    have HB1:Hid (Below w.heap.size w w1):=by rw [hw1]; exact (Below.refl _ w).alloc (Nat.le_refl _) _
    clear hw1
    go_wp2_with fail
    refine (show Calls _ _ _ _ _ from HS.out _).mono ?_
    rintro e w2 ⟨rfl,hw2⟩
    subst w2
    go_wp2_with fail
    refine (show Calls _ _ _ _ _ from HQ.out _).mono ?_
    rintro e w2 ⟨rfl,hw2⟩
    subst w2
    go_wp2_with fail
    refine (numI_any _ _).mono ?_
    rintro e w2 ⟨rfl,hbx⟩
    have HGx:Hid (w2.heap[w.heap.size]?=some (.cells #[.string ⟨#[]⟩,.int .i64 0,.bool false] 385)):=keep_row HG1.out hbx
    have HBx:Hid (Below w.heap.size w w2):=bel_to HB1.out hbx (Nat.le_refl _)
    obtain ⟨d0,d1,d2,df⟩:=row3 HGx.out
    clear hbx
    clear k0
    go_wp2
    obtain ⟨hF3,hO3⟩:=heap_set3 w2 w.heap.size 385 _ _ _ (.string ⟨#[]⟩) (.int .i64 N) (.bool true) HGx.out
    obtain ⟨k0,k1,k2,kf⟩:=row3 hF3
    refine bodyPost_ret (v:=.tuple #[.agg #[.string ⟨#[]⟩,.int .i64 N,.bool true],.int .i64 4]) (by simp [results,Tryz.results321,go_sem,k0,k1,k2]) rfl ⟨?_,HBx.out.trans (hO3.below (Nat.le_refl _))⟩
    rw [HR.out]; rfl
  · rw [if_neg (by rw [list_len]; omega)] at hR
    have HR:Hid _:=hR
    clear hR
    go_enter Tryz.func321,Tryz.ntmps321
    go_wp2_with fail
    refine (cut_bad s 1 3 (by omega) (by omega) (by omega) _).mono ?_
    rintro e w1 ⟨rfl,hw1⟩
    exact ⟨rfl,by rw [HR.out]; rfl,by rw [hw1]; exact (Below.refl _ w).alloc (Nat.le_refl _) _⟩
set_option maxHeartbeats 2000000 in
set_option maxRecDepth 100000 in
theorem rdI_w4 (s:ByteArray) (h0:0 < s.size) (hs:s.size ≤ 4294967296) (w:World) (hw:Wid w) (hc:s[0].toNat=243) :
    Calls Tryz.prog 321 #[.string s] w fun e w'=>e=out (outI (LM.rdItem s.data.toList))∧Below w.heap.size w w':=by
  have HW:Hid (Wid w):=hw
  have hR:=rd_at s h0
  obtain ⟨f,hf⟩:∃ f:Nat,s[0].toNat=f:=⟨_,rfl⟩
  have hf8:f < 256:=by rw [← hf]; exact s[0].toNat_lt
  rw [hf] at hR hc
  unfold LM.rdF at hR
  clear hw
  rw [if_neg (by omega),if_neg (by omega),if_neg (by omega),if_neg (by omega),if_neg (by omega),if_neg (by omega),if_neg (by omega),if_pos hc] at hR
  subst hc
  have k0:=(HW.out.on ((Below.refl _ w).alloc (Nat.le_refl _) (.cells #[.string ⟨#[]⟩,.int .i64 0,.bool false] 385))).c2
  unfold LM.numAt at hR
  by_cases h2:5 ≤ s.size
  · rw [if_pos (by rw [list_len]; omega)] at hR
    have HE:Hid ((strB ((s.data.toList.drop 1).take 4)).size=4):=by show _=_; rw [strB_size,List.length_take,List.length_drop,list_len]; omega
    have hlt:=LM.leN_lt ((s.data.toList.drop 1).take 4)
    rw [show ((s.data.toList.drop 1).take 4).length=4 by rw [List.length_take,List.length_drop,list_len]; omega] at hlt
    have hc2:=fun W=>cut_ok s 1 4 (by omega) (by omega) W
    have hs2:=fun W=>low_any _ (by rw [HE.out]; omega) W
    rw [strB_list] at hs2
    obtain ⟨C,hC⟩:∃ C,strB ((s.data.toList.drop 1).take 4)=C:=⟨_,rfl⟩
    rw [hC] at hs2
    rw [hC] at hc2
    have HC:Hid (∀ W,Calls Tryz.prog 364 #[.string s,.int .i64 1,.int .i64 4] W fun e w'=>e=.returned (.string C)∧w'=W):=hc2
    have hq:=sg_low 0 4 4294967296 ((s.data.toList.drop 1).take 4) (by rw [List.length_take,List.length_drop,list_len]; omega) (by omega) (by decide) (by decide)
    obtain ⟨X,hX⟩:∃ X,wrap64 (LM.leN ((s.data.toList.drop 1).take 4):Nat)=X:=⟨_,rfl⟩
    obtain ⟨N,hN⟩:∃ N,LM.sg 4 (LM.leN ((s.data.toList.drop 1).take 4))=N:=⟨_,rfl⟩
    rw [hX] at hq hs2
    rw [hN] at hq hR
    have HS:Hid (∀ W,Calls Tryz.prog 318 #[.string C] W fun e w'=>e=.returned (.int .i64 X)∧w'=W):=hs2
    have HQ:Hid (∀ W,Calls Tryz.prog 366 #[.int .i64 X,.int .i64 32] W fun e w'=>e=.returned (.int .i64 N)∧w'=W):=fun W=>by
      have:=signed_32 X W
      rw [hq] at this
      exact this
    have HR:Hid _:=hR
    clear hR hs2 hc2 hC HE hX hN hq hlt
    go_enter Tryz.func321,Tryz.ntmps321
    go_wp2_with fail
    refine (show Calls _ _ _ _ _ from HC.out _).mono ?_
    rintro e w1 ⟨rfl,hw1⟩
    have HG1:Hid (w1.heap[w.heap.size]?=some (.cells #[.string ⟨#[]⟩,.int .i64 0,.bool false] 385)):=by rw [hw1]; exact one_alloc w _
    have HB1:Hid (Below w.heap.size w w1):=by rw [hw1]; exact (Below.refl _ w).alloc (Nat.le_refl _) _
    clear hw1
    go_wp2_with fail
    refine (show Calls _ _ _ _ _ from HS.out _).mono ?_
    rintro e w2 ⟨rfl,hw2⟩
    subst w2
    go_wp2_with fail
    refine (show Calls _ _ _ _ _ from HQ.out _).mono ?_
    rintro e w2 ⟨rfl,hw2⟩
    subst w2
    go_wp2_with fail
    refine (numI_any _ _).mono ?_
    rintro e w2 ⟨rfl,hbx⟩
    have HGx:Hid (w2.heap[w.heap.size]?=some (.cells #[.string ⟨#[]⟩,.int .i64 0,.bool false] 385)):=keep_row HG1.out hbx
    have HBx:Hid (Below w.heap.size w w2):=bel_to HB1.out hbx (Nat.le_refl _)
    obtain ⟨d0,d1,d2,df⟩:=row3 HGx.out
    clear hbx
    clear k0
    go_wp2
    obtain ⟨hF3,hO3⟩:=heap_set3 w2 w.heap.size 385 _ _ _ (.string ⟨#[]⟩) (.int .i64 N) (.bool true) HGx.out
    obtain ⟨k0,k1,k2,kf⟩:=row3 hF3
    refine bodyPost_ret (v:=.tuple #[.agg #[.string ⟨#[]⟩,.int .i64 N,.bool true],.int .i64 5]) (by simp [results,Tryz.results321,go_sem,k0,k1,k2]) rfl ⟨?_,HBx.out.trans (hO3.below (Nat.le_refl _))⟩
    rw [HR.out]; rfl
  · rw [if_neg (by rw [list_len]; omega)] at hR
    have HR:Hid _:=hR
    clear hR
    go_enter Tryz.func321,Tryz.ntmps321
    go_wp2_with fail
    refine (cut_bad s 1 4 (by omega) (by omega) (by omega) _).mono ?_
    rintro e w1 ⟨rfl,hw1⟩
    exact ⟨rfl,by rw [HR.out]; rfl,by rw [hw1]; exact (Below.refl _ w).alloc (Nat.le_refl _) _⟩
set_option maxHeartbeats 2000000 in
set_option maxRecDepth 100000 in
theorem rdI_w8 (s:ByteArray) (h0:0 < s.size) (hs:s.size ≤ 4294967296) (w:World) (hw:Wid w) (hc:s[0].toNat=244) :
    Calls Tryz.prog 321 #[.string s] w fun e w'=>e=out (outI (LM.rdItem s.data.toList))∧Below w.heap.size w w':=by
  have HW:Hid (Wid w):=hw
  have hR:=rd_at s h0
  obtain ⟨f,hf⟩:∃ f:Nat,s[0].toNat=f:=⟨_,rfl⟩
  have hf8:f < 256:=by rw [← hf]; exact s[0].toNat_lt
  rw [hf] at hR hc
  unfold LM.rdF at hR
  clear hw
  rw [if_neg (by omega),if_neg (by omega),if_neg (by omega),if_neg (by omega),if_neg (by omega),if_neg (by omega),if_neg (by omega),if_neg (by omega),if_pos hc] at hR
  subst hc
  have k0:=(HW.out.on ((Below.refl _ w).alloc (Nat.le_refl _) (.cells #[.string ⟨#[]⟩,.int .i64 0,.bool false] 385))).c3
  unfold LM.numAt at hR
  by_cases h2:9 ≤ s.size
  · rw [if_pos (by rw [list_len]; omega)] at hR
    have HE:Hid ((strB ((s.data.toList.drop 1).take 8)).size=8):=by show _=_; rw [strB_size,List.length_take,List.length_drop,list_len]; omega
    have hlt:=LM.leN_lt ((s.data.toList.drop 1).take 8)
    rw [show ((s.data.toList.drop 1).take 8).length=8 by rw [List.length_take,List.length_drop,list_len]; omega] at hlt
    have hc2:=fun W=>cut_ok s 1 8 (by omega) (by omega) W
    have hs2:=fun W=>low_any _ (by rw [HE.out]; omega) W
    rw [strB_list] at hs2
    obtain ⟨C,hC⟩:∃ C,strB ((s.data.toList.drop 1).take 8)=C:=⟨_,rfl⟩
    rw [hC] at hs2
    rw [hC] at hc2
    have HC:Hid (∀ W,Calls Tryz.prog 364 #[.string s,.int .i64 1,.int .i64 8] W fun e w'=>e=.returned (.string C)∧w'=W):=hc2
    have hq:=sg_low8 ((s.data.toList.drop 1).take 8) (by rw [List.length_take,List.length_drop,list_len]; omega)
    obtain ⟨X,hX⟩:∃ X,wrap64 (LM.leN ((s.data.toList.drop 1).take 8):Nat)=X:=⟨_,rfl⟩
    obtain ⟨N,hN⟩:∃ N,LM.sg 8 (LM.leN ((s.data.toList.drop 1).take 8))=N:=⟨_,rfl⟩
    rw [hX] at hq hs2
    rw [hN] at hq hR
    have HS:Hid (∀ W,Calls Tryz.prog 318 #[.string C] W fun e w'=>e=.returned (.int .i64 X)∧w'=W):=hs2
    have HQ:Hid (∀ W,Calls Tryz.prog 366 #[.int .i64 X,.int .i64 64] W fun e w'=>e=.returned (.int .i64 N)∧w'=W):=fun W=>by
      have:=signed_64 X W
      rw [hq] at this
      exact this
    have HR:Hid _:=hR
    clear hR hs2 hc2 hC HE hX hN hq hlt
    go_enter Tryz.func321,Tryz.ntmps321
    go_wp2_with fail
    refine (show Calls _ _ _ _ _ from HC.out _).mono ?_
    rintro e w1 ⟨rfl,hw1⟩
    have HG1:Hid (w1.heap[w.heap.size]?=some (.cells #[.string ⟨#[]⟩,.int .i64 0,.bool false] 385)):=by rw [hw1]; exact one_alloc w _
    have HB1:Hid (Below w.heap.size w w1):=by rw [hw1]; exact (Below.refl _ w).alloc (Nat.le_refl _) _
    clear hw1
    go_wp2_with fail
    refine (show Calls _ _ _ _ _ from HS.out _).mono ?_
    rintro e w2 ⟨rfl,hw2⟩
    subst w2
    go_wp2_with fail
    refine (show Calls _ _ _ _ _ from HQ.out _).mono ?_
    rintro e w2 ⟨rfl,hw2⟩
    subst w2
    go_wp2_with fail
    refine (numI_any _ _).mono ?_
    rintro e w2 ⟨rfl,hbx⟩
    have HGx:Hid (w2.heap[w.heap.size]?=some (.cells #[.string ⟨#[]⟩,.int .i64 0,.bool false] 385)):=keep_row HG1.out hbx
    have HBx:Hid (Below w.heap.size w w2):=bel_to HB1.out hbx (Nat.le_refl _)
    obtain ⟨d0,d1,d2,df⟩:=row3 HGx.out
    clear hbx
    clear k0
    go_wp2
    obtain ⟨hF3,hO3⟩:=heap_set3 w2 w.heap.size 385 _ _ _ (.string ⟨#[]⟩) (.int .i64 N) (.bool true) HGx.out
    obtain ⟨k0,k1,k2,kf⟩:=row3 hF3
    refine bodyPost_ret (v:=.tuple #[.agg #[.string ⟨#[]⟩,.int .i64 N,.bool true],.int .i64 9]) (by simp [results,Tryz.results321,go_sem,k0,k1,k2]) rfl ⟨?_,HBx.out.trans (hO3.below (Nat.le_refl _))⟩
    rw [HR.out]; rfl
  · rw [if_neg (by rw [list_len]; omega)] at hR
    have HR:Hid _:=hR
    clear hR
    go_enter Tryz.func321,Tryz.ntmps321
    go_wp2_with fail
    refine (cut_bad s 1 8 (by omega) (by omega) (by omega) _).mono ?_
    rintro e w1 ⟨rfl,hw1⟩
    exact ⟨rfl,by rw [HR.out]; rfl,by rw [hw1]; exact (Below.refl _ w).alloc (Nat.le_refl _) _⟩
set_option maxHeartbeats 2000000 in
set_option maxRecDepth 100000 in
theorem rdI_bad (s:ByteArray) (h0:0 < s.size) (hs:s.size ≤ 4294967296) (w:World) (hw:Wid w) (hc:244 < s[0].toNat) :
    Calls Tryz.prog 321 #[.string s] w fun e w'=>e=out (outI (LM.rdItem s.data.toList))∧Below w.heap.size w w':=by
  have HW:Hid (Wid w):=hw
  have hR:=rd_at s h0
  obtain ⟨f,hf⟩:∃ f:Nat,s[0].toNat=f:=⟨_,rfl⟩
  have hf8:f < 256:=by rw [← hf]; exact s[0].toNat_lt
  rw [hf] at hR hc
  unfold LM.rdF at hR
  clear hw
  rw [if_neg (by omega),if_neg (by omega),if_neg (by omega),if_neg (by omega),if_neg (by omega),if_neg (by omega),if_neg (by omega),if_neg (by omega),if_neg (by omega)] at hR
  have HR:Hid _:=hR
  clear hR
  go_enter Tryz.func321,Tryz.ntmps321
  go_wp2_with fail
  exact ⟨rfl,by rw [HR.out]; rfl,(Below.refl _ w).alloc (Nat.le_refl _) _⟩
theorem rdI_any (s:ByteArray) (h0:0 < s.size) (hs:s.size ≤ 4294967296) (w:World) (hw:Wid w) :
    Calls Tryz.prog 321 #[.string s] w fun e w'=>e=out (outI (LM.rdItem s.data.toList))∧Below w.heap.size w w':=by
  have hf8:=s[0].toNat_lt
  rcases (show s[0].toNat < 128 ∨ (128 ≤ s[0].toNat∧s[0].toNat < 192) ∨ (192 ≤ s[0].toNat∧s[0].toNat < 224) ∨ (224 ≤ s[0].toNat∧s[0].toNat < 240) ∨ s[0].toNat=240 ∨ s[0].toNat=241 ∨ s[0].toNat=242 ∨ s[0].toNat=243 ∨ s[0].toNat=244 ∨ 244 < s[0].toNat by omega) with h | h | h | h | h | h | h | h | h | h
  · exact rdI_n7 s h0 hs w hw h
  · exact rdI_t6 s h0 hs w hw h
  · exact rdI_n13 s h0 hs w hw h
  · exact rdI_t12 s h0 hs w hw h
  · exact rdI_t32 s h0 hs w hw h
  · exact rdI_w2 s h0 hs w hw h
  · exact rdI_w3 s h0 hs w hw h
  · exact rdI_w4 s h0 hs w hw h
  · exact rdI_w8 s h0 hs w hw h
  · exact rdI_bad s h0 hs w hw h
end Go.Proofs.YtiefeeoellagnaaGreatDoor.S6
namespace Go.Proofs.YtiefeeoellagnaaGreatDoor.S6
open Go.RowKit
set_option linter.unusedVariables false
def encE (it:LM.Item) (a n:Nat):Value:=.agg #[.string (strB it.txt),.int .i64 it.num,.bool it.isN,.int .i64 (a:Int),.int .i64 (n:Int)]
def outE (a:Nat) (o:Option (LM.Item × Nat)):Option Value:=o.map fun x=>encE x.1 a x.2
end Go.Proofs.YtiefeeoellagnaaGreatDoor.S6
