import Derived.Test.YtjnbjfjoejfmpaaGreatDoorWAT
namespace Go.Proofs.YtjnbjfjoejfmpaaGreatDoor
open Go.RowKit
set_option linter.unusedVariables false
set_option linter.unusedSimpArgs false
section
variable {ok:Nat → Prop}
set_option maxHeartbeats 4000000 in
set_option maxRecDepth 100000 in
theorem rpush_big_true (E B:Nat) (v:Value) (N:QM.NL) (s:ByteArray) (hI:QM.Inv E B N) (hl:N.flatten.length ≤ 1000) (hs:s.size ≤ 524288) (w:World) (hk:∀ k,w.heap.size ≤ k → ok k) (h:RL ok w v N) (hbg:QM.big B s=true) :
    Calls Tryz.prog 34 #[rlV E B v,.string s,.bool true] w fun e w'=>∃ v',e=.returned (.tuple #[rlV E B v',.int .i64 0])∧RL ok w' v' (QM.rep N 0 0 [[s]])∧Below w.heap.size w w':=by
  obtain ⟨P,c,rfl⟩:=h.form
  have HL:Hid (RL ok w (.slice P N.length c) N):=h
  have HK:Hid (∀ k,w.heap.size ≤ k → ok k):=hk
  have hln:N.length ≤ 1000:=Nat.le_trans (QM.len_le hI.some) hl
  have HMA:Hid (∀ W,Below w.heap.size w W → Calls Tryz.prog 73 #[rlV E B (.slice P N.length c),.string s,.int .i64 1] W fun e w'=>e=.returned (.int .i64 0)∧Below W.heap.size W w'):=fun W hW=>by
    have:=may_any E B _ N s 1 (by omega) hl hln W (h.on hW)
    rw [if_neg (by omega)] at this; exact this
  have HLA:Hid (∀ W,Calls Tryz.prog 74 #[rlV E B (.slice P N.length c),.string s] W fun e w'=>e=.returned (.bool (QM.big B s))∧Below W.heap.size W w'):=fun W=>large_any E B _ _ _ s W
  rw [hbg] at HLA
  obtain ⟨W0,hW0⟩:∃ W0,W0=(w.alloc (.cells #[.int .i64 (E:Int),.int .i64 (B:Int),.slice P N.length c] 29)).alloc (.cells #[.int .i64 0,.int .i64 0,.slice none 0 0] 29):=⟨_,rfl⟩
  have HTW:Hid (∀ W,Below W0.heap.size W0 W → Below w.heap.size w W∧W.heap[w.heap.size]?=some (.cells #[.int .i64 (E:Int),.int .i64 (B:Int),.slice P N.length c] 29)∧W.heap[w.heap.size + 1]?=some (.cells #[.int .i64 0,.int .i64 0,.slice none 0 0] 29)):=fun W hW=>by rw [hW0] at hW; exact two_rows hW
  have HZ0:Hid (W0.heap.size=w.heap.size + 2):=by show _=_; rw [hW0]; simp
  obtain ⟨N',hN⟩:∃ N',N.take 0 ++ (QM.nes [[s]] ++ N.drop 0)=N':=⟨_,rfl⟩
  have HN:Hid (N.take 0 ++ (QM.nes [[s]] ++ N.drop 0)=N'):=hN
  have HP:Hid (0 ≤ N.length):=by show _ ≤ _; omega
  have HQ:Hid (QM.rep N 0 0 [[s]]=N'):=hN
  rw [HQ.out]
  obtain ⟨NL,hNL⟩:∃ NL,N'.length=NL:=⟨_,rfl⟩
  have HNL:Hid (N'.length=NL):=hNL
  have hw1:IntKind.i64.wrap ((N.length:Int) - 1)=(N.length:Int) - 1:=by rw [IntKind.wrap_i64] <;> omega
  clear h hk hI hN hNL hbg
  go_enter Tryz.func34,Tryz.ntmps34
  go_wp2_with fail
  rw [← hW0]
  refine (show Calls _ _ _ _ _ from HMA.out _ (HTW.out _ (Below.refl _ _)).1).mono ?_
  rintro e w1 ⟨rfl,hb1⟩
  have HX1:Hid (Below W0.heap.size W0 w1):=hb1
  obtain ⟨c0,c1,c2,cf⟩:=row3 (HTW.out _ hb1).2.1
  clear hb1 hW0
  go_wp2_with fail
  refine (show Calls _ _ _ _ _ from HLA.out _).mono ?_
  rintro e w2 ⟨rfl,hb2⟩
  have HX2:Hid (Below W0.heap.size W0 w2):=bel_to HX1.out hb2 (Nat.le_refl _)
  clear c0 c1 c2 cf
  obtain ⟨c0,c1,c2,cf⟩:=row3 (HTW.out _ HX2.out).2.1
  clear hb2
  go_wp2_with fail
  refine (show Calls _ _ _ _ _ from HLA.out _).mono ?_
  rintro e w3 ⟨rfl,hb3⟩
  have HX3:Hid (Below W0.heap.size W0 w3):=bel_to HX2.out hb3 (Nat.le_refl _)
  clear c0 c1 c2 cf
  obtain ⟨c0,c1,c2,cf⟩:=row3 (HTW.out _ HX3.out).2.1
  clear hb3
  have HWI:Hid (Calls Tryz.prog 76 #[rlV E B (.slice P N.length c),.int .i64 0,.int .i64 0,.slice (some ⟨w3.heap.size + 1,0,none⟩) 1 1] ((w3.alloc (.cells #[.string s] 9)).alloc (.cells #[.slice (some ⟨w3.heap.size,0,none⟩) 1 1] 22)) fun e w'=>∃ P' c',e=.returned (rlV E B (.slice P' NL c'))∧RL (fun k=>ok k∧k ≠ w.heap.size + 1) w' (.slice P' NL c') N'∧Below W0.heap.size W0 w'):=by
    have hx:=(HX3.out:Below W0.heap.size W0 w3)
    have hz:=HZ0.out
    have hzs:=hx.size
    have hd:DRow (fun k=>ok k∧k ≠ w.heap.size + 1) (w3.alloc (.cells #[.string s] 9)) (.slice (some ⟨w3.heap.size,0,none⟩) 1 1) (strV [s]):=drow_str s ⟨HK.out _ (by omega),by omega⟩
    exact with_at (ok:=ok) E B P c N [[s]] [.slice (some ⟨w3.heap.size,0,none⟩) 1 1] 0 0 (w.heap.size + 1) (w3.heap.size + 1) NL N' w W0 (w3.alloc (.cells #[.string s] 9)) HN.out HNL.out (by simp) HP.out HP.out hln (by simp) HK.out HL.out (HTW.out _ (Below.refl _ _)).1 (hx.alloc hzs _) ⟨by omega,by omega⟩ ⟨hd,trivial⟩
  go_wp2_with fail
  refine (show Calls _ _ _ _ _ from HWI.out).mono ?_
  rintro e w4 ⟨P',c',rfl,hR,hb4⟩
  clear c0 c1 c2 cf
  obtain ⟨r0,r1,r2,rf⟩:=row3 (HTW.out _ hb4).2.2
  have HX4:Hid (Below W0.heap.size W0 w4):=hb4
  have HR:Hid (RL (fun k=>ok k∧k ≠ w.heap.size + 1) w4 (.slice P' NL c') N'):=hR
  have HG:Hid _:=heap_set3 w4 (w.heap.size + 1) 29 _ _ _ (.int .i64 (E:Int)) (.int .i64 (B:Int)) (.slice P' NL c') (HTW.out _ hb4).2.2
  clear hb4 hR
  go_wp2
  obtain ⟨g0,g1,g2,gf⟩:=row3 HG.out.1
  exact bodyPost_ret (v:=.tuple #[rlV E B (.slice P' NL c'),.int .i64 0]) (by simp [results,Tryz.results34,go_sem,g0,g1,g2]) rfl ⟨_,rfl,fin_rl _ _ _ (HTW.out _ HX4.out).2.2 HR.out,below_set3 (HTW.out _ HX4.out).1 (by omega) _ _ _⟩
set_option maxHeartbeats 4000000 in
set_option maxRecDepth 100000 in
theorem rpush_full_true (E B:Nat) (v:Value) (N:QM.NL) (s:ByteArray) (hI:QM.Inv E B N) (hl:N.flatten.length ≤ 1000) (hs:s.size ≤ 524288) (w:World) (hk:∀ k,w.heap.size ≤ k → ok k) (h:RL ok w v N) (hbg:QM.big B s=false) (hRO:∀ W,RL ok W v N → Calls Tryz.prog 75 #[rlV E B v,.int .i64 (0:Int)] W fun e w'=>e=.returned (.bool false)∧Below W.heap.size W w') :
    Calls Tryz.prog 34 #[rlV E B v,.string s,.bool true] w fun e w'=>∃ v',e=.returned (.tuple #[rlV E B v',.int .i64 0])∧RL ok w' v' (QM.rep N 0 0 [[s]])∧Below w.heap.size w w':=by
  obtain ⟨P,c,rfl⟩:=h.form
  have HL:Hid (RL ok w (.slice P N.length c) N):=h
  have HK:Hid (∀ k,w.heap.size ≤ k → ok k):=hk
  have hln:N.length ≤ 1000:=Nat.le_trans (QM.len_le hI.some) hl
  have HMA:Hid (∀ W,Below w.heap.size w W → Calls Tryz.prog 73 #[rlV E B (.slice P N.length c),.string s,.int .i64 1] W fun e w'=>e=.returned (.int .i64 0)∧Below W.heap.size W w'):=fun W hW=>by
    have:=may_any E B _ N s 1 (by omega) hl hln W (h.on hW)
    rw [if_neg (by omega)] at this; exact this
  have HLA:Hid (∀ W,Calls Tryz.prog 74 #[rlV E B (.slice P N.length c),.string s] W fun e w'=>e=.returned (.bool (QM.big B s))∧Below W.heap.size W w'):=fun W=>large_any E B _ _ _ s W
  rw [hbg] at HLA
  obtain ⟨W0,hW0⟩:∃ W0,W0=(w.alloc (.cells #[.int .i64 (E:Int),.int .i64 (B:Int),.slice P N.length c] 29)).alloc (.cells #[.int .i64 0,.int .i64 0,.slice none 0 0] 29):=⟨_,rfl⟩
  have HTW:Hid (∀ W,Below W0.heap.size W0 W → Below w.heap.size w W∧W.heap[w.heap.size]?=some (.cells #[.int .i64 (E:Int),.int .i64 (B:Int),.slice P N.length c] 29)∧W.heap[w.heap.size + 1]?=some (.cells #[.int .i64 0,.int .i64 0,.slice none 0 0] 29)):=fun W hW=>by rw [hW0] at hW; exact two_rows hW
  have HZ0:Hid (W0.heap.size=w.heap.size + 2):=by show _=_; rw [hW0]; simp
  obtain ⟨N',hN⟩:∃ N',N.take 0 ++ (QM.nes [[s]] ++ N.drop 0)=N':=⟨_,rfl⟩
  have HN:Hid (N.take 0 ++ (QM.nes [[s]] ++ N.drop 0)=N'):=hN
  have HP:Hid (0 ≤ N.length):=by show _ ≤ _; omega
  have HQ:Hid (QM.rep N 0 0 [[s]]=N'):=hN
  rw [HQ.out]
  obtain ⟨NL,hNL⟩:∃ NL,N'.length=NL:=⟨_,rfl⟩
  have HNL:Hid (N'.length=NL):=hNL
  have hw1:IntKind.i64.wrap ((N.length:Int) - 1)=(N.length:Int) - 1:=by rw [IntKind.wrap_i64] <;> omega
  have HRO:Hid (∀ W,Below w.heap.size w W → Calls Tryz.prog 75 #[rlV E B (.slice P N.length c),.int .i64 (0:Int)] W fun e w'=>e=.returned (.bool false)∧Below W.heap.size W w'):=fun W hW=>hRO W (HL.out.on hW)
  clear h hk hI hN hNL hbg
  clear hRO
  go_enter Tryz.func34,Tryz.ntmps34
  go_wp2_with fail
  rw [← hW0]
  refine (show Calls _ _ _ _ _ from HMA.out _ (HTW.out _ (Below.refl _ _)).1).mono ?_
  rintro e w1 ⟨rfl,hb1⟩
  have HX1:Hid (Below W0.heap.size W0 w1):=hb1
  obtain ⟨c0,c1,c2,cf⟩:=row3 (HTW.out _ hb1).2.1
  clear hb1 hW0
  go_wp2_with fail
  refine (show Calls _ _ _ _ _ from HLA.out _).mono ?_
  rintro e w2 ⟨rfl,hb2⟩
  have HX2:Hid (Below W0.heap.size W0 w2):=bel_to HX1.out hb2 (Nat.le_refl _)
  clear c0 c1 c2 cf
  obtain ⟨c0,c1,c2,cf⟩:=row3 (HTW.out _ HX2.out).2.1
  clear hb2
  go_wp2_with fail
  refine (show Calls _ _ _ _ _ from HRO.out _ (HTW.out _ HX2.out).1).mono ?_
  rintro e w3 ⟨rfl,hb3⟩
  have HX3:Hid (Below W0.heap.size W0 w3):=bel_to HX2.out hb3 (Nat.le_refl _)
  clear c0 c1 c2 cf
  obtain ⟨c0,c1,c2,cf⟩:=row3 (HTW.out _ HX3.out).2.1
  clear hb3
  go_wp2_with fail
  refine (show Calls _ _ _ _ _ from HLA.out _).mono ?_
  rintro e w4 ⟨rfl,hb4⟩
  have HX4:Hid (Below W0.heap.size W0 w4):=bel_to HX3.out hb4 (Nat.le_refl _)
  clear c0 c1 c2 cf
  obtain ⟨c0,c1,c2,cf⟩:=row3 (HTW.out _ HX4.out).2.1
  clear hb4
  go_wp2_with fail
  refine (show Calls _ _ _ _ _ from HRO.out _ (HTW.out _ HX4.out).1).mono ?_
  rintro e w5 ⟨rfl,hb5⟩
  have HX5:Hid (Below W0.heap.size W0 w5):=bel_to HX4.out hb5 (Nat.le_refl _)
  clear c0 c1 c2 cf
  obtain ⟨c0,c1,c2,cf⟩:=row3 (HTW.out _ HX5.out).2.1
  clear hb5
  have HWI:Hid (Calls Tryz.prog 76 #[rlV E B (.slice P N.length c),.int .i64 0,.int .i64 0,.slice (some ⟨w5.heap.size + 1,0,none⟩) 1 1] ((w5.alloc (.cells #[.string s] 9)).alloc (.cells #[.slice (some ⟨w5.heap.size,0,none⟩) 1 1] 22)) fun e w'=>∃ P' c',e=.returned (rlV E B (.slice P' NL c'))∧RL (fun k=>ok k∧k ≠ w.heap.size + 1) w' (.slice P' NL c') N'∧Below W0.heap.size W0 w'):=by
    have hx:=(HX5.out:Below W0.heap.size W0 w5)
    have hz:=HZ0.out
    have hzs:=hx.size
    have hd:DRow (fun k=>ok k∧k ≠ w.heap.size + 1) (w5.alloc (.cells #[.string s] 9)) (.slice (some ⟨w5.heap.size,0,none⟩) 1 1) (strV [s]):=drow_str s ⟨HK.out _ (by omega),by omega⟩
    exact with_at (ok:=ok) E B P c N [[s]] [.slice (some ⟨w5.heap.size,0,none⟩) 1 1] 0 0 (w.heap.size + 1) (w5.heap.size + 1) NL N' w W0 (w5.alloc (.cells #[.string s] 9)) HN.out HNL.out (by simp) HP.out HP.out hln (by simp) HK.out HL.out (HTW.out _ (Below.refl _ _)).1 (hx.alloc hzs _) ⟨by omega,by omega⟩ ⟨hd,trivial⟩
  go_wp2_with fail
  refine (show Calls _ _ _ _ _ from HWI.out).mono ?_
  rintro e w6 ⟨P',c',rfl,hR,hb6⟩
  clear c0 c1 c2 cf
  obtain ⟨r0,r1,r2,rf⟩:=row3 (HTW.out _ hb6).2.2
  have HX6:Hid (Below W0.heap.size W0 w6):=hb6
  have HR:Hid (RL (fun k=>ok k∧k ≠ w.heap.size + 1) w6 (.slice P' NL c') N'):=hR
  have HG:Hid _:=heap_set3 w6 (w.heap.size + 1) 29 _ _ _ (.int .i64 (E:Int)) (.int .i64 (B:Int)) (.slice P' NL c') (HTW.out _ hb6).2.2
  clear hb6 hR
  go_wp2
  obtain ⟨g0,g1,g2,gf⟩:=row3 HG.out.1
  exact bodyPost_ret (v:=.tuple #[rlV E B (.slice P' NL c'),.int .i64 0]) (by simp [results,Tryz.results34,go_sem,g0,g1,g2]) rfl ⟨_,rfl,fin_rl _ _ _ (HTW.out _ HX6.out).2.2 HR.out,below_set3 (HTW.out _ HX6.out).1 (by omega) _ _ _⟩
set_option maxHeartbeats 4000000 in
set_option maxRecDepth 100000 in
theorem rpush_big_false (E B:Nat) (v:Value) (N:QM.NL) (s:ByteArray) (hI:QM.Inv E B N) (hl:N.flatten.length ≤ 1000) (hs:s.size ≤ 524288) (w:World) (hk:∀ k,w.heap.size ≤ k → ok k) (h:RL ok w v N) (hbg:QM.big B s=true) :
    Calls Tryz.prog 34 #[rlV E B v,.string s,.bool false] w fun e w'=>∃ v',e=.returned (.tuple #[rlV E B v',.int .i64 0])∧RL ok w' v' (QM.rep N N.length 0 [[s]])∧Below w.heap.size w w':=by
  obtain ⟨P,c,rfl⟩:=h.form
  have HL:Hid (RL ok w (.slice P N.length c) N):=h
  have HK:Hid (∀ k,w.heap.size ≤ k → ok k):=hk
  have hln:N.length ≤ 1000:=Nat.le_trans (QM.len_le hI.some) hl
  have HMA:Hid (∀ W,Below w.heap.size w W → Calls Tryz.prog 73 #[rlV E B (.slice P N.length c),.string s,.int .i64 1] W fun e w'=>e=.returned (.int .i64 0)∧Below W.heap.size W w'):=fun W hW=>by
    have:=may_any E B _ N s 1 (by omega) hl hln W (h.on hW)
    rw [if_neg (by omega)] at this; exact this
  have HLA:Hid (∀ W,Calls Tryz.prog 74 #[rlV E B (.slice P N.length c),.string s] W fun e w'=>e=.returned (.bool (QM.big B s))∧Below W.heap.size W w'):=fun W=>large_any E B _ _ _ s W
  rw [hbg] at HLA
  obtain ⟨W0,hW0⟩:∃ W0,W0=(w.alloc (.cells #[.int .i64 (E:Int),.int .i64 (B:Int),.slice P N.length c] 29)).alloc (.cells #[.int .i64 0,.int .i64 0,.slice none 0 0] 29):=⟨_,rfl⟩
  have HTW:Hid (∀ W,Below W0.heap.size W0 W → Below w.heap.size w W∧W.heap[w.heap.size]?=some (.cells #[.int .i64 (E:Int),.int .i64 (B:Int),.slice P N.length c] 29)∧W.heap[w.heap.size + 1]?=some (.cells #[.int .i64 0,.int .i64 0,.slice none 0 0] 29)):=fun W hW=>by rw [hW0] at hW; exact two_rows hW
  have HZ0:Hid (W0.heap.size=w.heap.size + 2):=by show _=_; rw [hW0]; simp
  obtain ⟨N',hN⟩:∃ N',N.take N.length ++ (QM.nes [[s]] ++ N.drop N.length)=N':=⟨_,rfl⟩
  have HN:Hid (N.take N.length ++ (QM.nes [[s]] ++ N.drop N.length)=N'):=hN
  have HP:Hid (N.length ≤ N.length):=by show _ ≤ _; omega
  have HQ:Hid (QM.rep N N.length 0 [[s]]=N'):=hN
  rw [HQ.out]
  obtain ⟨NL,hNL⟩:∃ NL,N'.length=NL:=⟨_,rfl⟩
  have HNL:Hid (N'.length=NL):=hNL
  have hw1:IntKind.i64.wrap ((N.length:Int) - 1)=(N.length:Int) - 1:=by rw [IntKind.wrap_i64] <;> omega
  clear h hk hI hN hNL hbg
  go_enter Tryz.func34,Tryz.ntmps34
  go_wp2_with fail
  rw [← hW0]
  refine (show Calls _ _ _ _ _ from HMA.out _ (HTW.out _ (Below.refl _ _)).1).mono ?_
  rintro e w1 ⟨rfl,hb1⟩
  have HX1:Hid (Below W0.heap.size W0 w1):=hb1
  obtain ⟨c0,c1,c2,cf⟩:=row3 (HTW.out _ hb1).2.1
  clear hb1 hW0
  go_wp2_with fail
  refine (show Calls _ _ _ _ _ from HLA.out _).mono ?_
  rintro e w2 ⟨rfl,hb2⟩
  have HX2:Hid (Below W0.heap.size W0 w2):=bel_to HX1.out hb2 (Nat.le_refl _)
  clear c0 c1 c2 cf
  obtain ⟨c0,c1,c2,cf⟩:=row3 (HTW.out _ HX2.out).2.1
  clear hb2
  go_wp2_with fail
  refine (show Calls _ _ _ _ _ from HLA.out _).mono ?_
  rintro e w3 ⟨rfl,hb3⟩
  have HX3:Hid (Below W0.heap.size W0 w3):=bel_to HX2.out hb3 (Nat.le_refl _)
  clear c0 c1 c2 cf
  obtain ⟨c0,c1,c2,cf⟩:=row3 (HTW.out _ HX3.out).2.1
  clear hb3
  have HWI:Hid (Calls Tryz.prog 76 #[rlV E B (.slice P N.length c),.int .i64 (N.length:Int),.int .i64 (N.length:Int),.slice (some ⟨w3.heap.size + 1,0,none⟩) 1 1] ((w3.alloc (.cells #[.string s] 9)).alloc (.cells #[.slice (some ⟨w3.heap.size,0,none⟩) 1 1] 22)) fun e w'=>∃ P' c',e=.returned (rlV E B (.slice P' NL c'))∧RL (fun k=>ok k∧k ≠ w.heap.size + 1) w' (.slice P' NL c') N'∧Below W0.heap.size W0 w'):=by
    have hx:=(HX3.out:Below W0.heap.size W0 w3)
    have hz:=HZ0.out
    have hzs:=hx.size
    have hd:DRow (fun k=>ok k∧k ≠ w.heap.size + 1) (w3.alloc (.cells #[.string s] 9)) (.slice (some ⟨w3.heap.size,0,none⟩) 1 1) (strV [s]):=drow_str s ⟨HK.out _ (by omega),by omega⟩
    exact with_at (ok:=ok) E B P c N [[s]] [.slice (some ⟨w3.heap.size,0,none⟩) 1 1] N.length N.length (w.heap.size + 1) (w3.heap.size + 1) NL N' w W0 (w3.alloc (.cells #[.string s] 9)) HN.out HNL.out (by simp) HP.out HP.out hln (by simp) HK.out HL.out (HTW.out _ (Below.refl _ _)).1 (hx.alloc hzs _) ⟨by omega,by omega⟩ ⟨hd,trivial⟩
  go_wp2_with fail
  refine (show Calls _ _ _ _ _ from HWI.out).mono ?_
  rintro e w4 ⟨P',c',rfl,hR,hb4⟩
  clear c0 c1 c2 cf
  obtain ⟨r0,r1,r2,rf⟩:=row3 (HTW.out _ hb4).2.2
  have HX4:Hid (Below W0.heap.size W0 w4):=hb4
  have HR:Hid (RL (fun k=>ok k∧k ≠ w.heap.size + 1) w4 (.slice P' NL c') N'):=hR
  have HG:Hid _:=heap_set3 w4 (w.heap.size + 1) 29 _ _ _ (.int .i64 (E:Int)) (.int .i64 (B:Int)) (.slice P' NL c') (HTW.out _ hb4).2.2
  clear hb4 hR
  go_wp2
  obtain ⟨g0,g1,g2,gf⟩:=row3 HG.out.1
  exact bodyPost_ret (v:=.tuple #[rlV E B (.slice P' NL c'),.int .i64 0]) (by simp [results,Tryz.results34,go_sem,g0,g1,g2]) rfl ⟨_,rfl,fin_rl _ _ _ (HTW.out _ HX4.out).2.2 HR.out,below_set3 (HTW.out _ HX4.out).1 (by omega) _ _ _⟩
set_option maxHeartbeats 4000000 in
set_option maxRecDepth 100000 in
theorem rpush_full_false (E B:Nat) (v:Value) (N:QM.NL) (s:ByteArray) (hI:QM.Inv E B N) (hl:N.flatten.length ≤ 1000) (hs:s.size ≤ 524288) (w:World) (hk:∀ k,w.heap.size ≤ k → ok k) (h:RL ok w v N) (hbg:QM.big B s=false) (hRO:∀ W,RL ok W v N → Calls Tryz.prog 75 #[rlV E B v,.int .i64 ((N.length:Int) - 1)] W fun e w'=>e=.returned (.bool false)∧Below W.heap.size W w') :
    Calls Tryz.prog 34 #[rlV E B v,.string s,.bool false] w fun e w'=>∃ v',e=.returned (.tuple #[rlV E B v',.int .i64 0])∧RL ok w' v' (QM.rep N N.length 0 [[s]])∧Below w.heap.size w w':=by
  obtain ⟨P,c,rfl⟩:=h.form
  have HL:Hid (RL ok w (.slice P N.length c) N):=h
  have HK:Hid (∀ k,w.heap.size ≤ k → ok k):=hk
  have hln:N.length ≤ 1000:=Nat.le_trans (QM.len_le hI.some) hl
  have HMA:Hid (∀ W,Below w.heap.size w W → Calls Tryz.prog 73 #[rlV E B (.slice P N.length c),.string s,.int .i64 1] W fun e w'=>e=.returned (.int .i64 0)∧Below W.heap.size W w'):=fun W hW=>by
    have:=may_any E B _ N s 1 (by omega) hl hln W (h.on hW)
    rw [if_neg (by omega)] at this; exact this
  have HLA:Hid (∀ W,Calls Tryz.prog 74 #[rlV E B (.slice P N.length c),.string s] W fun e w'=>e=.returned (.bool (QM.big B s))∧Below W.heap.size W w'):=fun W=>large_any E B _ _ _ s W
  rw [hbg] at HLA
  obtain ⟨W0,hW0⟩:∃ W0,W0=(w.alloc (.cells #[.int .i64 (E:Int),.int .i64 (B:Int),.slice P N.length c] 29)).alloc (.cells #[.int .i64 0,.int .i64 0,.slice none 0 0] 29):=⟨_,rfl⟩
  have HTW:Hid (∀ W,Below W0.heap.size W0 W → Below w.heap.size w W∧W.heap[w.heap.size]?=some (.cells #[.int .i64 (E:Int),.int .i64 (B:Int),.slice P N.length c] 29)∧W.heap[w.heap.size + 1]?=some (.cells #[.int .i64 0,.int .i64 0,.slice none 0 0] 29)):=fun W hW=>by rw [hW0] at hW; exact two_rows hW
  have HZ0:Hid (W0.heap.size=w.heap.size + 2):=by show _=_; rw [hW0]; simp
  obtain ⟨N',hN⟩:∃ N',N.take N.length ++ (QM.nes [[s]] ++ N.drop N.length)=N':=⟨_,rfl⟩
  have HN:Hid (N.take N.length ++ (QM.nes [[s]] ++ N.drop N.length)=N'):=hN
  have HP:Hid (N.length ≤ N.length):=by show _ ≤ _; omega
  have HQ:Hid (QM.rep N N.length 0 [[s]]=N'):=hN
  rw [HQ.out]
  obtain ⟨NL,hNL⟩:∃ NL,N'.length=NL:=⟨_,rfl⟩
  have HNL:Hid (N'.length=NL):=hNL
  have hw1:IntKind.i64.wrap ((N.length:Int) - 1)=(N.length:Int) - 1:=by rw [IntKind.wrap_i64] <;> omega
  have HRO:Hid (∀ W,Below w.heap.size w W → Calls Tryz.prog 75 #[rlV E B (.slice P N.length c),.int .i64 ((N.length:Int) - 1)] W fun e w'=>e=.returned (.bool false)∧Below W.heap.size W w'):=fun W hW=>hRO W (HL.out.on hW)
  clear h hk hI hN hNL hbg
  clear hRO
  go_enter Tryz.func34,Tryz.ntmps34
  go_wp2_with fail
  rw [← hW0]
  refine (show Calls _ _ _ _ _ from HMA.out _ (HTW.out _ (Below.refl _ _)).1).mono ?_
  rintro e w1 ⟨rfl,hb1⟩
  have HX1:Hid (Below W0.heap.size W0 w1):=hb1
  obtain ⟨c0,c1,c2,cf⟩:=row3 (HTW.out _ hb1).2.1
  clear hb1 hW0
  go_wp2_with fail
  refine (show Calls _ _ _ _ _ from HLA.out _).mono ?_
  rintro e w2 ⟨rfl,hb2⟩
  have HX2:Hid (Below W0.heap.size W0 w2):=bel_to HX1.out hb2 (Nat.le_refl _)
  clear c0 c1 c2 cf
  obtain ⟨c0,c1,c2,cf⟩:=row3 (HTW.out _ HX2.out).2.1
  clear hb2
  go_wp2_with fail
  refine (show Calls _ _ _ _ _ from HRO.out _ (HTW.out _ HX2.out).1).mono ?_
  rintro e w3 ⟨rfl,hb3⟩
  have HX3:Hid (Below W0.heap.size W0 w3):=bel_to HX2.out hb3 (Nat.le_refl _)
  clear c0 c1 c2 cf
  obtain ⟨c0,c1,c2,cf⟩:=row3 (HTW.out _ HX3.out).2.1
  clear hb3
  go_wp2_with fail
  refine (show Calls _ _ _ _ _ from HLA.out _).mono ?_
  rintro e w4 ⟨rfl,hb4⟩
  have HX4:Hid (Below W0.heap.size W0 w4):=bel_to HX3.out hb4 (Nat.le_refl _)
  clear c0 c1 c2 cf
  obtain ⟨c0,c1,c2,cf⟩:=row3 (HTW.out _ HX4.out).2.1
  clear hb4
  go_wp2_with fail
  refine (show Calls _ _ _ _ _ from HRO.out _ (HTW.out _ HX4.out).1).mono ?_
  rintro e w5 ⟨rfl,hb5⟩
  have HX5:Hid (Below W0.heap.size W0 w5):=bel_to HX4.out hb5 (Nat.le_refl _)
  clear c0 c1 c2 cf
  obtain ⟨c0,c1,c2,cf⟩:=row3 (HTW.out _ HX5.out).2.1
  clear hb5
  have HWI:Hid (Calls Tryz.prog 76 #[rlV E B (.slice P N.length c),.int .i64 (N.length:Int),.int .i64 (N.length:Int),.slice (some ⟨w5.heap.size + 1,0,none⟩) 1 1] ((w5.alloc (.cells #[.string s] 9)).alloc (.cells #[.slice (some ⟨w5.heap.size,0,none⟩) 1 1] 22)) fun e w'=>∃ P' c',e=.returned (rlV E B (.slice P' NL c'))∧RL (fun k=>ok k∧k ≠ w.heap.size + 1) w' (.slice P' NL c') N'∧Below W0.heap.size W0 w'):=by
    have hx:=(HX5.out:Below W0.heap.size W0 w5)
    have hz:=HZ0.out
    have hzs:=hx.size
    have hd:DRow (fun k=>ok k∧k ≠ w.heap.size + 1) (w5.alloc (.cells #[.string s] 9)) (.slice (some ⟨w5.heap.size,0,none⟩) 1 1) (strV [s]):=drow_str s ⟨HK.out _ (by omega),by omega⟩
    exact with_at (ok:=ok) E B P c N [[s]] [.slice (some ⟨w5.heap.size,0,none⟩) 1 1] N.length N.length (w.heap.size + 1) (w5.heap.size + 1) NL N' w W0 (w5.alloc (.cells #[.string s] 9)) HN.out HNL.out (by simp) HP.out HP.out hln (by simp) HK.out HL.out (HTW.out _ (Below.refl _ _)).1 (hx.alloc hzs _) ⟨by omega,by omega⟩ ⟨hd,trivial⟩
  go_wp2_with fail
  refine (show Calls _ _ _ _ _ from HWI.out).mono ?_
  rintro e w6 ⟨P',c',rfl,hR,hb6⟩
  clear c0 c1 c2 cf
  obtain ⟨r0,r1,r2,rf⟩:=row3 (HTW.out _ hb6).2.2
  have HX6:Hid (Below W0.heap.size W0 w6):=hb6
  have HR:Hid (RL (fun k=>ok k∧k ≠ w.heap.size + 1) w6 (.slice P' NL c') N'):=hR
  have HG:Hid _:=heap_set3 w6 (w.heap.size + 1) 29 _ _ _ (.int .i64 (E:Int)) (.int .i64 (B:Int)) (.slice P' NL c') (HTW.out _ hb6).2.2
  clear hb6 hR
  go_wp2
  obtain ⟨g0,g1,g2,gf⟩:=row3 HG.out.1
  exact bodyPost_ret (v:=.tuple #[rlV E B (.slice P' NL c'),.int .i64 0]) (by simp [results,Tryz.results34,go_sem,g0,g1,g2]) rfl ⟨_,rfl,fin_rl _ _ _ (HTW.out _ HX6.out).2.2 HR.out,below_set3 (HTW.out _ HX6.out).1 (by omega) _ _ _⟩
end
end Go.Proofs.YtjnbjfjoejfmpaaGreatDoor
