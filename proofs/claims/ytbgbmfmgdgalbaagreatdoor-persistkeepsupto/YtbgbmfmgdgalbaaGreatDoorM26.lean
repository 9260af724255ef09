import Derived.Test.YtbgbmfmgdgalbaaGreatDoorM25
import Derived.Lib.MinMax
namespace Go.Proofs.YtbgbmfmgdgalbaaGreatDoor
open Go.RowKit Go.Maps
set_option linter.unusedVariables false
set_option linter.unusedSimpArgs false
structure Wn (W:World) (g:Nat) (X:Gh) (F:Fs) (v:Value) (l:List ByteArray):Prop where
  kr:KR psE W v l
  no:l ≠ [] → NB (Own g F X) v
theorem ps_at {W:World} {PP:Option Addr} {n c m:Nat} {l:List ByteArray} (h:KR psE W (.slice PP n c) l) (hm:m < l.length):∃ b oo,PP=some ⟨b,oo,none⟩∧W.cell? ⟨b,oo + m,none⟩=some (.string (l[m]'hm)):=by
  obtain ⟨b,oo,c',he,hc⟩:=h.cell psOk hm
  injection he with he _ _
  subst he
  have h1:=hc 0 _ rfl
  refine ⟨b,oo,rfl,?_⟩
  rw [← h1]
  congr 2
  show oo + m=oo + m * 1 + 0
  omega
theorem ps_cell {W:World} {b oo n c m:Nat} {l:List ByteArray} (h:KR psE W (.slice (some ⟨b,oo,none⟩) n c) l) (hm:m < l.length):W.cell? ⟨b,oo + m,none⟩=some (.string (l[m]'hm)):=by
  obtain ⟨b2,o2,e,hc⟩:=ps_at h hm
  injection e with e
  injection e with e1 e2 _
  subst e1 e2
  exact hc
theorem Wn.lt {W:World} {g:Nat} {X:Gh} {F:Fs} {v:Value} {l:List ByteArray} (h:Wn W g X F v l) (hl:l ≠ []) {b x n c:Nat} (e:v=.slice (some ⟨b,x,none⟩) n c):b < W.heap.size:=by
  have hp:0 < l.length:=List.length_pos_iff.2 hl
  have hk:=h.kr
  rw [e] at hk
  obtain ⟨b2,oo,e2,hc⟩:=ps_at (m:=0) hk hp
  injection e2 with e2
  injection e2 with e2 _ _
  subst e2
  exact lt_of_cell hc
theorem Wn.bt {W W':World} {g:Nat} {X X':Gh} {F F':Fs} {v:Value} {l:List ByteArray} (h:Wn W g X F v l) (hb:Bt W g X F W' X' F'):Wn W' g X' F' v l:=
  ⟨h.kr.modP hb.md h.no,fun hl b x n c e ho=>(hb.own b ho).elim (h.no hl b x n c e) (fun hge=>by have:=h.lt hl e; omega)⟩
theorem Wn.on {W W':World} {g:Nat} {X:Gh} {F:Fs} {v:Value} {l:List ByteArray} (h:Wn W g X F v l) (hb:Below W.heap.size W W'):Wn W' g X F v l:=⟨h.kr.on hb,h.no⟩
theorem Wn.nil {W:World} {g:Nat} {X:Gh} {F:Fs}:Wn W g X F (.slice none 0 0) []:=⟨KR.nil,fun h=>absurd rfl h⟩
theorem Wn.new {w0 W W':World} {g i base:Nat} {X:Gh} {F:Fs} {v:Value} {n:Nat} {l:List ByteArray} (h:St w0 W g X F i) (hb:W.heap.size ≤ base) (ho:W'.ownsRow base 9 1 v n (psE.fl l)) (hn:n=l.length):Wn W' g X F v l:=
  ⟨KR.own (E:=psE) ho hn,fun _ b x n' c e hO=>by
    have h1:=(World.ownsRow.lt ho b (by rw [e]; rfl)).1
    have h2:=h.fs.own_lt hO
    omega⟩
theorem Wn.cut {W:World} {g:Nat} {X:Gh} {F:Fs} {r n c m:Nat} {l:List ByteArray} (h:Wn W g X F (.slice (some ⟨r,0,none⟩) n c) l) (hm:m ≤ l.length):Wn W g X F (.slice (some ⟨r,0,none⟩) m c) (l.take m):=by
  obtain ⟨hk,hn⟩:=h
  refine ⟨?_,fun hl b x n' c' e=>?_⟩
  · by_cases h0:m=0
    · subst h0
      exact Or.inl ⟨by simp,_,_,rfl,fun h=>by cases h⟩
    · refine Or.inr ⟨r,0,c,by rw [List.length_take,Nat.min_eq_left hm],fun j u hu=>?_⟩
      rcases hk with ⟨h1,_⟩ | ⟨g2,o2,c2,e2,hc⟩
      · rw [h1] at hm; simp at hm; omega
      · injection e2 with e3 _ _
        injection e3 with e3
        injection e3 with e4 e5 _
        subst e4 e5
        refine hc j u ?_
        rw [ps_fl] at hu ⊢
        rw [List.map_take] at hu
        by_cases hj:j < m
        · rwa [List.getElem?_take_of_lt hj] at hu
        · rw [List.getElem?_eq_none_iff.2 (by rw [List.length_take]; omega)] at hu
          cases hu
  · injection e with e _ _
    injection e with e
    injection e with e1 e2 _
    subst e1 e2
    exact hn (fun h=>hl (by rw [h]; simp)) r 0 n c rfl
theorem kr_underT {N:Nat} {W W':World} {v:Value} {p:List ByteArray} (h:KR psE W v p) (hl:p ≠ [] → ∀ b x n c,v=.slice (some ⟨b,x,none⟩) n c → b < N) (hb:Below N W W'):KR psE W' v p:=by
  rcases h with ⟨rfl,h⟩ | ⟨g,o,cap,rfl,hc⟩
  · exact Or.inl ⟨rfl,h⟩
  · by_cases hp:p=[]
    · subst hp
      exact Or.inr ⟨g,o,cap,rfl,fun j u hu=>by simp [ET.fl] at hu⟩
    · have hg:=hl hp g o _ _ rfl
      exact Or.inr ⟨g,o,cap,rfl,fun j u hu=>by rw [pcell_same (hb.block g hg)]; exact hc j u hu⟩
theorem row4k {W:World} {g T:Nat} {a0 a1 a2 a3:Value} (h:W.heap[g]?=some (.cells #[a0,a1,a2,a3] T)):W.cell? ⟨g,0,none⟩=some a0∧W.cell? ⟨g,1,none⟩=some a1∧W.cell? ⟨g,2,none⟩=some a2∧W.cell? ⟨g,3,none⟩=some a3:=by
  refine ⟨?_,?_,?_,?_⟩ <;> (rw [cell_of_row _ _ _ _ _ _ h]; rfl)
theorem same_txt {W:World} {va vb:Value} {l:List ByteArray} (hl:l.length ≤ 4611686018427387000) (ha:KR psE W va l) (hb:KR psE W vb l):Calls Tryz.prog 12 #[va,vb] W fun e w'=>e=.returned (.bool true)∧Below W.heap.size W w':=by
  have:=sameTexts_any va vb l l hl W ha hb
  simpa using this
theorem keep_save (hSV:SaveC) {w0 W:World} {g i keep:Nat} {X:Gh} {F:Fs} {t:ByteArray} {cur:Option ByteArray} {olds:List ByteArray} (hs:St w0 W g X F i) (hI:Inv F i) (hi:i + 32830 ≤ 3298534883000) (hk:Kp F cur olds keep) (ht:t.size ≤ 1048576) (h8:keep ≤ 8):∃ F',Inv F' (i + 32830)∧Kp F' (some t) (nextO cur olds keep) keep∧Calls Tryz.prog 9 #[.pointer (some ⟨g,0,none⟩),.string t,.int .i64 (keep:Int)] W (CalP w0 W g X F F' (i + 32830) (.int .i64 0)):=by
  obtain ⟨h1,h2⟩:=hk.save (t:=t) (by omega) h8
  have h3:=hSV w0 W g X F i t (keep:Int) hs hI hi (by omega) (by omega)
  rw [h1] at h3
  exact ⟨_,(hI.save t (keep:Int)).more (by omega),h2,h3⟩
theorem keep_older (hOL:OlderC) {w0 W:World} {g i keep:Nat} {X:Gh} {F:Fs} {cur:Option ByteArray} {olds:List ByteArray} (hs:St w0 W g X F i) (hI:Inv F i) (hi:i + 32830 ≤ 3298534883000) (hk:Kp F cur olds keep) (h8:keep ≤ 8):Calls Tryz.prog 10 #[.pointer (some ⟨g,0,none⟩)] W (OlderP W olds olds.length 0):=by
  have:=hOL w0 W g X F i hs hI hi
  rw [older_kv hk.gd hk.kv h8] at this
  exact this
theorem keep_load (hLD:LoadC) {w0 W:World} {g i keep:Nat} {X:Gh} {F:Fs} {t:ByteArray} {olds:List ByteArray} (hs:St w0 W g X F i) (hI:Inv F i) (hi:i + 32830 ≤ 3298534883000) (hk:Kp F (some t) olds keep):Calls Tryz.prog 11 #[.pointer (some ⟨g,0,none⟩)] W (CalP w0 W g X F F (i + 65) (.tuple #[.string t,.bool true,.int .i64 0])):=by
  have:=hLD w0 W g X F i hs hI hi
  rw [load_kv hk.gd hk.kv] at this
  exact this
theorem inv_fails {F:Fs} {i:Nat} (h:Inv F i) (n p:Int):Inv (failsM F n p).1 (i + 1):=h.done ⟨6,⟨#[]⟩,⟨#[]⟩,⟨#[]⟩,n,p,[]⟩ (Nat.zero_le _)
set_option maxHeartbeats 20000000 in
set_option maxRecDepth 100000 in
theorem Keeps_walk (hSV:SaveC) (hLD:LoadC) (hOL:OlderC) (TP:Option Addr) (tc:Nat) (T:List ByteArray) (keep:Int) (last:ByteArray) (fail:Int) (w:World) (hT:KR psE w (.slice TP T.length tc) T) (hTL:T.length ≤ 1048576) (hTS:∀ t ∈ T,t.size ≤ 1048576) (hTB:T ≠ [] → ∀ b x n c,(Value.slice TP T.length tc)=.slice (some ⟨b,x,none⟩) n c → b < w.heap.size) (hls:last.size ≤ 1048576) :
    Calls Tryz.prog 3 #[.agg #[.slice TP T.length tc,.int .i64 keep,.string last,.int .i64 fail]] w fun e w'=>e=.returned (.bool true)∧Below w.heap.size w w':=by
  have HSV:Hid SaveC:=hSV
  have HLD:Hid LoadC:=hLD
  have HOL:Hid OlderC:=hOL
  have HWK:Hid (∀ W,Calls Tryz.prog 8 #[] W fun e w'=>e=.returned (.bool true)∧Below W.heap.size W w'):=works24_any hSV hLD hOL
  have HT:Hid (∀ W,Below w.heap.size w W → KR psE W (.slice TP T.length tc) T):=fun W hb=>kr_underT hT hTB hb
  have HTL:Hid (T.length ≤ 1048576):=hTL
  have HTS:Hid (∀ i (h:i < T.length),(T[i]'h).size ≤ 1048576):=fun i h=>hTS _ (List.getElem_mem h)
  have HLS:Hid (last.size ≤ 1048576):=hls
  obtain ⟨W0,hW0⟩:∃ W0,w.alloc (.cells #[.slice TP T.length tc,.int .i64 keep,.string last,.int .i64 fail] 24)=W0:=⟨_,rfl⟩
  obtain ⟨R,hR⟩:∃ R,w.heap.size=R:=⟨_,rfl⟩
  have hb0:Below w.heap.size w W0:=by rw [← hW0]; exact (Below.refl _ _).alloc (Nat.le_refl _) _
  have hr0:W0.heap[R]?=some (.cells #[.slice TP T.length tc,.int .i64 keep,.string last,.int .i64 fail] 24):=by rw [← hW0,← hR]; exact one_alloc _ _
  have HBD:Hid (Below w.heap.size w W0.drew):=hb0.drew
  obtain ⟨c0,c1,c2,c3⟩:=row4k (show W0.drew.heap[R]?=_ from hr0)
  clear hSV hLD hOL hT hTL hTS hTB hls hb0 hr0
  go_enter Tryz.func3,Tryz.ntmps3
  go_upto_region 1 with fail
  try rw [hR]
  try rw [hW0]
  clear hW0
  go_region_held3 (fun W:World=>W.cell? ⟨R,0,none⟩=some (.slice TP T.length tc)∧W.cell? ⟨R,1,none⟩=some (.int .i64 keep)∧W.cell? ⟨R,2,none⟩=some (.string last)∧W.cell? ⟨R,3,none⟩=some (.int .i64 fail)) (exact ⟨c0,c1,c2,c3⟩) (fail)
  clear c0 c1 c2 c3
  generalize W0.drew=WD at *
  have HNW:Hid _:=NewW_any WD
  go_wp2_with fail
  refine (show Calls _ _ _ _ _ from HNW.out).mono ?_
  rintro e w1 ⟨g,X,rfl,hk⟩
  have H1:Hid (St WD w1 g X newM 0):=St.new hk
  clear hk HNW
  go_wp2_with fail
  refine (show Calls _ _ _ _ _ from HWK.out _).mono ?_
  rintro e w2 ⟨rfl,hb2⟩
  have H2:Hid (St WD w2 g X newM 0):=H1.out.on hb2
  clear hb2 H1 HWK
  go_wp2
  go_loopw [9,8] (fun ci lv wr=>∃ (j:Nat) (lg:Int),j ≤ T.length∧ci=.int .i64 (j:Int)∧lv=.int .i64 lg∧0 ≤ lg∧lg ≤ 1048576∧wr=w2) (fun ci _ _=>T.length - (intOf ci).toNat)
  case atStart=>exact ⟨0,(last.size:Int),Nat.zero_le _,rfl,rfl,by omega,by have:=HLS.out; omega,rfl⟩
  case round =>
    obtain ⟨j,lg,hj,rfl,rfl,hl0,hl1,hwe⟩:=hrel
    subst hwe
    have HLG:Hid (0 ≤ lg∧lg ≤ 1048576):=⟨hl0,hl1⟩
    clear hl0 hl1
    by_cases hlt:j < T.length
    · obtain ⟨b,oo,hPP,cj⟩:=ps_at (HT.out wr (HBD.out.trans (H2.out.bel.mono HBD.out.size))) hlt
      subst hPP
      have HTJ:Hid ((T[j]'hlt).size ≤ 1048576):=HTS.out j hlt
      generalize T[j]'hlt=tj at *
      have hz0:(0:Int) ≤ (j:Int):=by omega
      have hz1:(j:Int) < (T.length:Int):=by omega
      have HLT:Hid (j < T.length):=hlt
      have hiw:IntKind.i64.wrap ((j:Int) + 1)=(j:Int) + 1:=by have:=HTL.out; rw [IntKind.wrap_i64] <;> omega
      clear hlt hj
      go_wp2
      go_roundw
      case rel=>exact ⟨j + 1,_,HLT.out,rfl,rfl,by have:=HLG.out; omega,by have:=HLG.out; have:=HTJ.out; omega,by first | rfl | trivial⟩
      case measure=>have:=HLT.out; simp [intOf]; omega
    · have hlg2:¬ (1073741824:Int) < lg:=by have:=HLG.out; omega
      obtain ⟨kn,hkn,hk8⟩:∃ kn:Nat,max (0:Int) (min keep 8)=(kn:Int)∧kn ≤ 8:=⟨(max (0:Int) (min keep 8)).toNat,by omega,by omega⟩
      have HK8:Hid (kn ≤ 8):=hk8
      have hjn:¬ (j:Int) < (T.length:Int):=by omega
      clear hlt hj hk8
      go_wp2
      clear hlg2 hkn hjn
      go_loopw [11,10] (fun ci wv wx=>∃ (i:Nat) (F:Fs) (X:Gh) (cur:Option ByteArray) (olds:List ByteArray) (P:Option Addr) (c:Nat),i ≤ T.length∧ci=.int .i64 (i:Int)∧wv=.slice P olds.length c∧St WD wx g X F (i * 32895)∧Inv F (i * 32895)∧Kp F cur olds kn∧Wn wx g X F (.slice P olds.length c) olds∧(i=0 → P=none∧c=0∧cur=none∧olds=[])∧(∀ k (h:k < T.length),i=k + 1 → cur=some (T[k]'h))) (fun ci _ _=>T.length - (intOf ci).toNat)
      case atStart=>exact ⟨0,newM,X,none,[],none,0,Nat.zero_le _,rfl,rfl,H2.out,Inv.new,Kp.new kn,Wn.nil,fun _=>⟨rfl,rfl,rfl,rfl⟩,fun k _ h=>by omega⟩
      case round =>
        obtain ⟨i,F,X,cur,olds,P,c,hi,rfl,rfl,hst,hiv,hkp,hwn,hz,hnz⟩:=hrel
        have HST:Hid (St WD wr g X F (i * 32895)):=hst
        have HIV:Hid (Inv F (i * 32895)):=hiv
        have HKP:Hid (Kp F cur olds kn):=hkp
        have HWN:Hid (Wn wr g X F (.slice P olds.length c) olds):=hwn
        clear hst hiv hkp hwn H2 HLG
        by_cases hlt:i < T.length
        · have HLT:Hid (i < T.length):=hlt
          have HIB:Hid (i * 32895 + 200000 ≤ 3298534883000):=by have:=HTL.out; show _ ≤ _; omega
          have HIW:Hid (IntKind.i64.wrap ((i:Int) + 1)=(i:Int) + 1):=by have:=HTL.out; show _=_; rw [IntKind.wrap_i64] <;> omega
          obtain ⟨b,oo,hPP,hdr⟩:=ps_at (HT.out wr (HBD.out.trans (HST.out.bel.mono HBD.out.size))) hlt
          subst hPP
          clear hdr
          obtain ⟨ti,hti⟩:∃ ti,T[i]'hlt=ti:=⟨_,rfl⟩
          have HTI:Hid (ti.size ≤ 1048576):=by have:=HTS.out i hlt; rw [hti] at this; exact this
          have HTE:Hid (∀ h:i < T.length,T[i]'h=ti):=fun _=>hti
          have HCI:Hid (∀ Wx,Below WD.heap.size WD Wx → Wx.cell? ⟨b,oo + i,none⟩=some (.string ti)):=fun Wx hx=>by
            have:=ps_cell (HT.out Wx (HBD.out.trans (hx.mono HBD.out.size))) hlt
            rw [hti] at this
            exact this
          clear hti
          have hz2:(0:Int) ≤ (i:Int):=by omega
          have hz3:(i:Int) < (T.length:Int):=by omega
          rcases Nat.eq_zero_or_pos i with h0 | h0
          · obtain ⟨rfl,rfl,rfl,rfl⟩:=hz h0
            have hm0:min (0:Int) (kn:Int)=0:=by omega
            have hgt:¬ (0:Int) < (i:Int):=by omega
            have HNX:Hid (nextO none [] kn=[]):=rfl
            have HLL:Hid (([]:List ByteArray).length=0):=rfl
            have HSa:Hid (St WD wr g X F (i * 32895)):=HST.out
            have HWa:Hid (Wn wr g X F (.slice none 0 0) []):=HWN.out
            clear hz hnz hi hlt h0 HST HWN
            go_upto_region 20 with fail
            clear hm0 hgt
            obtain ⟨F1,hI1,hk1,hq1⟩:=keep_save HSV.out HSa.out HIV.out (by have:=HIB.out; omega) HKP.out HTI.out HK8.out
            rw [HNX.out] at hk1
            have HI1:Hid (Inv F1 (i * 32895 + 32830)):=hI1
            have HK1:Hid (Kp F1 (some ti) [] kn):=hk1
            have HQ:Hid _:=hq1
            have hx:=HCI.out _ HSa.out.bel
            clear hI1 hk1 hq1 HKP HIV HNX
            go_wp2_with fail
            refine (show Calls _ _ _ _ _ from HQ.out).mono ?_
            rintro e w6 ⟨rfl,X6,hs6,hb6⟩
            have HS6:Hid (St WD w6 g X6 F1 (i * 32895 + 32830)):=hs6
            have HW6:Hid (Wn w6 g X6 F1 (.slice none 0 0) []):=HWa.out.bt hb6
            clear hs6 hb6 HQ HSa HWa hx
            have HQ:Hid (Calls Tryz.prog 10 #[.pointer (some ⟨g,0,none⟩)] w6 (OlderP w6 [] 0 0)):=by
              have:=keep_older HOL.out HS6.out HI1.out (by have:=HIB.out; omega) HK1.out HK8.out
              exact this
            go_wp2_with fail
            refine (show Calls _ _ _ _ _ from HQ.out).mono ?_
            rintro e w7 ⟨Po,co,rfl,ho,hb7⟩
            have HS7:Hid (St WD w7 g X6 F1 (i * 32895 + 32830)):=HS6.out.on hb7
            have HW7:Hid (Wn w7 g X6 F1 (.slice none 0 0) []):=HW6.out.on hb7
            have HO7:Hid (Wn w7 g X6 F1 (.slice Po 0 co) []):=Wn.new HS6.out (Nat.le_refl _) ho HLL.out.symm
            clear ho hb7 HQ HS6 HW6
            have HQ:Hid _:=keep_load HLD.out HS7.out HI1.out (by have:=HIB.out; omega) HK1.out
            go_wp2_with fail
            refine (show Calls _ _ _ _ _ from HQ.out).mono ?_
            rintro e w8 ⟨rfl,X8,hs8,hb8⟩
            have HS8:Hid (St WD w8 g X8 F1 ((i + 1) * 32895)):=by show St _ _ _ _ _ _; rw [show (i + 1) * 32895=i * 32895 + 32830 + 65 by omega]; exact hs8
            have HI8:Hid (Inv F1 ((i + 1) * 32895)):=HI1.out.more (by omega)
            have HW8:Hid (Wn w8 g X8 F1 (.slice none 0 0) []):=HW7.out.bt hb8
            have HO8:Hid (Wn w8 g X8 F1 (.slice Po 0 co) []):=HO7.out.bt hb8
            clear hs8 hb8 HQ HS7 HW7 HO7 HI1
            have HQ:Hid (Calls Tryz.prog 12 #[.slice Po 0 co,(.slice none 0 0)] w8 fun e w'=>e=.returned (.bool true)∧Below w8.heap.size w8 w'):=same_txt (by rw [HLL.out]; have:=HK1.out.kv.few; have:=HK8.out; have:=HLL.out; omega) HO8.out.kr HW8.out.kr
            have hx:=HCI.out _ HS8.out.bel
            have q1:(ti.toList == ti.toList)=true:=beq_self_eq_true _
            go_wp2_with fail
            refine (show Calls _ _ _ _ _ from HQ.out).mono ?_
            rintro e w9 ⟨rfl,hb9⟩
            have HS9:Hid (St WD w9 g X8 F1 ((i + 1) * 32895)):=HS8.out.on hb9
            have HW9:Hid (Wn w9 g X8 F1 (.slice none 0 0) []):=HW8.out.on hb9
            clear hb9 HQ HS8 HW8 HO8 hx q1
            have hiw:=HIW.out
            go_wp2
            go_roundw
            case rel =>
              refine ⟨i + 1,F1,X8,some ti,[],none,0,HLT.out,rfl,?_,HS9.out,HI8.out,HK1.out,?_,fun h=>by omega,fun k' h e=>?_⟩
              · rfl
              · exact HW9.out
              · obtain rfl:k'=i:=by omega
                rw [HTE.out h]
            case measure=>have:=HLT.out; simp [intOf]; omega
          · obtain ⟨k,hik⟩:∃ k,i=k + 1:=⟨i - 1,by omega⟩
            have HKL:Hid (k < T.length):=by show _ < _; omega
            have hcu:=hnz k HKL.out hik
            have ck:=ps_cell (m:=k) (HT.out wr (HBD.out.trans (HST.out.bel.mono HBD.out.size))) HKL.out
            obtain ⟨tk,htk⟩:∃ tk,T[k]'HKL.out=tk:=⟨_,rfl⟩
            rw [htk] at ck
            have HCU:Hid (cur=some tk):=by show _=_; rw [hcu,htk]
            have hgt:(0:Int) < (i:Int):=by omega
            have hkw:IntKind.i64.wrap ((i:Int) - 1)=(k:Int):=by have:=HTL.out; rw [IntKind.wrap_i64] <;> omega
            have hz0:(0:Int) ≤ (k:Int):=by omega
            have hz1:(k:Int) < (T.length:Int):=by have:=HKL.out; omega
            have HOLL:Hid (olds.length ≤ 8):=by have:=HKP.out.kv.few; have:=HK8.out; show _ ≤ _; omega
            have HIK:Hid (i=k + 1):=hik
            clear hz hnz hi hlt hcu htk h0 hik
            obtain ⟨Wl,hWl⟩:∃ Wl,wr.alloc (.cells #[.string tk] 9)=Wl:=⟨_,rfl⟩
            have HBl:Hid (Below wr.heap.size wr Wl):=by show Below _ _ _; rw [← hWl]; exact (Below.refl _ _).alloc (Nat.le_refl _) _
            have HOl:Hid (Wl.ownsRow wr.heap.size 9 1 (.slice (some ⟨wr.heap.size,0,none⟩) 1 1) 1 (psE.fl [tk])):=by
              show World.ownsRow _ _ _ _ _ _ _
              rw [← hWl]
              exact ⟨rfl,Or.inr ⟨wr.heap.size,1,_,rfl,Nat.le_refl _,one_alloc _ _,Nat.le_refl _,by unfold maxLen; omega,rfl,rfl⟩⟩
            have HKl:Hid (KR psE Wl (.slice P olds.length c) olds):=HWN.out.kr.on HBl.out
            go_upto_region 19 with (at_builtin; refine wpList_app psOk rfl _ _ rfl wr.heap.size (.slice (some ⟨wr.heap.size,0,none⟩) 1 1) [tk] 1 rfl rfl (by first | exact HOl.out | (rw [hWl]; exact HOl.out)) (.slice P olds.length c) olds rfl (by first | exact HKl.out | (rw [hWl]; exact HKl.out)) (1 + olds.length) rfl (by have:=HOLL.out; rw [List.length_singleton]; unfold maxLen; omega) (by have:=HOLL.out; rw [List.length_singleton]; show _ * 16 ≤ _; omega) (by first | exact HBl.out.size | (rw [hWl]; exact HBl.out.size)) ?_; intro va Wa hoa hga; obtain ⟨Pa,ca,hfa⟩:=own_form hoa; subst hfa)
            try rw [hWl] at hga
            have hba:Below wr.heap.size wr Wa:=HBl.out.grown hga HBl.out.size (fun q hq=>by injection hq with hq; subst hq; exact Nat.le_refl _)
            obtain ⟨ga,hga1⟩:∃ ga,Pa=some ⟨ga,0,none⟩:=by
              obtain ⟨_,⟨h1,h2⟩ | ⟨ga,_,_,h1,_⟩⟩:=hoa
              · omega
              · injection h1 with h1 _ _; exact ⟨ga,h1⟩
            subst hga1
            have hca:1 + olds.length ≤ ca:=by
              obtain ⟨_,⟨h1,h2⟩ | ⟨g2,c2,_,h1,_,_,h3,_⟩⟩:=hoa
              · omega
              · injection h1 with _ _ h4; omega
            have HSa:Hid (St WD Wa g X F (i * 32895)):=HST.out.on hba
            have hwn2:Wn Wa g X F (.slice (some ⟨ga,0,none⟩) (1 + olds.length) ca) (tk :: olds):=Wn.new HST.out (Nat.le_refl _) hoa (by rw [List.length_cons]; omega)
            obtain ⟨m,hm⟩:∃ m,min (1 + olds.length) kn=m:=⟨_,rfl⟩
            have HWa0:Hid (Wn Wa g X F (.slice (some ⟨ga,0,none⟩) m ca) ((tk :: olds).take m)):=hwn2.cut (by rw [List.length_cons]; omega)
            obtain ⟨L,hL⟩:∃ L,(tk :: olds).take m=L:=⟨_,rfl⟩
            have HLL:Hid (L.length=m):=by show _=_; rw [← hL,List.length_take,List.length_cons]; omega
            have HNX:Hid (nextO cur olds kn=L):=by
              show _=_
              rw [HCU.out,← hL,← hm]
              show (tk :: olds).take kn=_
              by_cases hkk:kn ≤ 1 + olds.length
              · rw [Nat.min_eq_right hkk]
              · rw [Nat.min_eq_left (by omega),List.take_of_length_le (by rw [List.length_cons]; omega),List.take_of_length_le (by rw [List.length_cons]; omega)]
            have HWa:Hid (Wn Wa g X F (.slice (some ⟨ga,0,none⟩) m ca) L):=by have:=HWa0.out; rw [hL] at this; exact this
            have hmin:min (1 + (olds.length:Int)) (kn:Int)=(m:Int):=by omega
            have hm1:(0:Int) ≤ (m:Int):=by omega
            have hm2:(m:Int) ≤ (ca:Int):=by omega
            clear hoa hga hba hwn2 hL hWl HBl HOl HKl HST HWN HCU HWa0 ck hgt hkw hz0 hz1 hm
            go_upto_region 20 with fail
            clear hmin hm1 hm2 hca
            obtain ⟨F1,hI1,hk1,hq1⟩:=keep_save HSV.out HSa.out HIV.out (by have:=HIB.out; omega) HKP.out HTI.out HK8.out
            rw [HNX.out] at hk1
            have HI1:Hid (Inv F1 (i * 32895 + 32830)):=hI1
            have HK1:Hid (Kp F1 (some ti) L kn):=hk1
            have HQ:Hid _:=hq1
            have hx:=HCI.out _ HSa.out.bel
            clear hI1 hk1 hq1 HKP HIV HNX
            go_wp2_with fail
            refine (show Calls _ _ _ _ _ from HQ.out).mono ?_
            rintro e w6 ⟨rfl,X6,hs6,hb6⟩
            have HS6:Hid (St WD w6 g X6 F1 (i * 32895 + 32830)):=hs6
            have HW6:Hid (Wn w6 g X6 F1 (.slice (some ⟨ga,0,none⟩) m ca) L):=HWa.out.bt hb6
            clear hs6 hb6 HQ HSa HWa hx
            have HQ:Hid (Calls Tryz.prog 10 #[.pointer (some ⟨g,0,none⟩)] w6 (OlderP w6 L m 0)):=by
              have:=keep_older HOL.out HS6.out HI1.out (by have:=HIB.out; omega) HK1.out HK8.out
              rw [HLL.out] at this
              exact this
            go_wp2_with fail
            refine (show Calls _ _ _ _ _ from HQ.out).mono ?_
            rintro e w7 ⟨Po,co,rfl,ho,hb7⟩
            have HS7:Hid (St WD w7 g X6 F1 (i * 32895 + 32830)):=HS6.out.on hb7
            have HW7:Hid (Wn w7 g X6 F1 (.slice (some ⟨ga,0,none⟩) m ca) L):=HW6.out.on hb7
            have HO7:Hid (Wn w7 g X6 F1 (.slice Po m co) L):=Wn.new HS6.out (Nat.le_refl _) ho HLL.out.symm
            clear ho hb7 HQ HS6 HW6
            have HQ:Hid _:=keep_load HLD.out HS7.out HI1.out (by have:=HIB.out; omega) HK1.out
            go_wp2_with fail
            refine (show Calls _ _ _ _ _ from HQ.out).mono ?_
            rintro e w8 ⟨rfl,X8,hs8,hb8⟩
            have HS8:Hid (St WD w8 g X8 F1 ((i + 1) * 32895)):=by show St _ _ _ _ _ _; rw [show (i + 1) * 32895=i * 32895 + 32830 + 65 by omega]; exact hs8
            have HI8:Hid (Inv F1 ((i + 1) * 32895)):=HI1.out.more (by omega)
            have HW8:Hid (Wn w8 g X8 F1 (.slice (some ⟨ga,0,none⟩) m ca) L):=HW7.out.bt hb8
            have HO8:Hid (Wn w8 g X8 F1 (.slice Po m co) L):=HO7.out.bt hb8
            clear hs8 hb8 HQ HS7 HW7 HO7 HI1
            have HQ:Hid (Calls Tryz.prog 12 #[.slice Po m co,(.slice (some ⟨ga,0,none⟩) m ca)] w8 fun e w'=>e=.returned (.bool true)∧Below w8.heap.size w8 w'):=same_txt (by rw [HLL.out]; have:=HK1.out.kv.few; have:=HK8.out; have:=HLL.out; omega) HO8.out.kr HW8.out.kr
            have hx:=HCI.out _ HS8.out.bel
            have q1:(ti.toList == ti.toList)=true:=beq_self_eq_true _
            go_wp2_with fail
            refine (show Calls _ _ _ _ _ from HQ.out).mono ?_
            rintro e w9 ⟨rfl,hb9⟩
            have HS9:Hid (St WD w9 g X8 F1 ((i + 1) * 32895)):=HS8.out.on hb9
            have HW9:Hid (Wn w9 g X8 F1 (.slice (some ⟨ga,0,none⟩) m ca) L):=HW8.out.on hb9
            clear hb9 HQ HS8 HW8 HO8 hx q1
            have hiw:=HIW.out
            go_wp2
            go_roundw
            case rel =>
              refine ⟨i + 1,F1,X8,some ti,L,(some ⟨ga,0,none⟩),ca,HLT.out,rfl,?_,HS9.out,HI8.out,HK1.out,?_,fun h=>by omega,fun k' h e=>?_⟩
              · rw [HLL.out]
              · rw [HLL.out]; exact HW9.out
              · obtain rfl:k'=i:=by omega
                rw [HTE.out h]
            case measure=>have:=HLT.out; simp [intOf]; omega
        · have hie:i=T.length:=by omega
          have HIB:Hid (i * 32895 + 200000 ≤ 3298534883000):=by have:=HTL.out; show _ ≤ _; omega
          subst hie
          clear hz hnz hi hlt HWN
          obtain ⟨K,hK⟩:∃ K,T.length * 32895=K:=⟨_,rfl⟩
          have HKB:Hid (K + 200000 ≤ 3298534883000):=by show _ ≤ _; rw [← hK]; exact HIB.out
          rw [hK] at HST HIV
          clear hK HIB
          obtain ⟨nn,hnn⟩:∃ nn,F.dir.length=nn:=⟨_,rfl⟩
          have HNN:Hid (F.dir.length=nn):=hnn
          have HNL:Hid (nn ≤ 64):=by show _ ≤ _; rw [← hnn]; exact HST.out.few.1
          clear hnn
          have HQ:Hid (Calls Tryz.prog 14 #[.pointer (some ⟨g,0,none⟩)] wr fun e w'=>NowP wr (nowM F) nn e w'):=now_st HST.out HNN.out
          go_wp2_with fail
          refine (show Calls _ _ _ _ _ from HQ.out).mono ?_
          rintro e w5 ⟨P5,c5,rfl,hp5,hb5⟩
          have HS5:Hid (St WD w5 g X F K):=HST.out.on hb5
          have HP5:Hid (PR w5 (.slice P5 nn c5) (nowM F)):=hp5
          clear hp5 hb5 HQ HST
          obtain ⟨ov,ob,hov⟩:∃ ov ob,orNo cur=(ov,ob):=⟨_,_,rfl⟩
          have HOV:Hid (orNo cur=(ov,ob)):=hov
          have HQ:Hid (Calls Tryz.prog 13 #[.slice P5 nn c5,.string { data:=#[100,117,109,112,46,114,100,98] }] w5 fun e w'=>e=.returned (.tuple #[.string ov,.bool ob])∧w'=w5):=by
            have:=find24_any (.slice P5 nn c5) (nowM F) { data:=#[100,117,109,112,46,114,100,98] } (by rw [now_len,HNN.out]; have:=HNL.out; omega) w5 HP5.out.kr
            have h2:=wh_look HKP.out.wh
            rw [HOV.out] at h2
            rw [show lookM (nowM F) { data:=#[100,117,109,112,46,114,100,98] }=(ov,ob) from h2] at this
            exact this
          clear hov
          go_wp2_with fail
          refine (show Calls _ _ _ _ _ from HQ.out).mono ?_
          rintro e w6 ⟨rfl,rfl⟩
          clear HQ HP5 HNN HNL
          by_cases hf:fail < 1 ∨ 1000 < fail
          · by_cases hf1:fail < 1
            · clear hf
              go_wp2
              go_returns
              exact ⟨rfl,by first | exact HBD.out.trans (HS5.out.bel.mono HBD.out.size) | (rw [← hR]; exact HBD.out.trans (HS5.out.bel.mono HBD.out.size))⟩
            · have hf2:1000 < fail:=by omega
              clear hf
              go_wp2
              go_returns
              exact ⟨rfl,by first | exact HBD.out.trans (HS5.out.bel.mono HBD.out.size) | (rw [← hR]; exact HBD.out.trans (HS5.out.bel.mono HBD.out.size))⟩
          · have hf1:¬ fail < 1:=by omega
            have hf2:¬ 1000 < fail:=by omega
            obtain ⟨hz0,hlast⟩:=HKP.out.last (t:=last) (by have:=HLS.out; omega) HK8.out (fail:=fail) (by omega)
            obtain ⟨Ff,e0,hff⟩:∃ Ff e0,failsM F fail 0=(Ff,e0):=⟨_,_,rfl⟩
            have hif:=inv_fails HIV.out fail 0
            have hcf:=fails_cal (n:=fail) (p:=0) HS5.out (by have:=HKB.out; omega)
            rw [hff] at hz0 hlast hif hcf
            simp only at hz0 hlast hif hcf
            subst hz0
            have HIF:Hid (Inv Ff (K + 1)):=hif
            have HQ:Hid (Calls Tryz.prog 15 #[.pointer (some ⟨g,0,none⟩),.int .i64 fail,.int .i64 0] w6 (CalP WD w6 g X F Ff (K + 1) (.int .i64 0))):=hcf
            obtain ⟨F2,e2,hsv⟩:∃ F2 e2,saveM Ff last (kn:Int)=(F2,e2):=⟨_,_,rfl⟩
            obtain ⟨hl1,hl2⟩:=hlast _ hsv
            simp only at hl1 hl2
            have HL1:Hid _:=hl1
            have HL2:Hid _:=hl2
            have HSW:Hid (∀ W X,St WD W g X Ff (K + 1) → Calls Tryz.prog 9 #[.pointer (some ⟨g,0,none⟩),.string last,.int .i64 (kn:Int)] W (CalP WD W g X Ff F2 (K + 32831) (.int .i64 e2))):=fun W X h=>by
              have:=HSV.out WD W g X Ff (K + 1) last (kn:Int) h HIF.out (by have:=HKB.out; omega) (by have:=HLS.out; omega) (by have:=HK8.out; omega)
              rw [hsv] at this
              exact this
            clear hf hff hif hcf hsv hl1 hl2 hlast HKP HIV
            go_wp2_with fail
            refine (show Calls _ _ _ _ _ from HQ.out).mono ?_
            rintro e w7 ⟨rfl,X7,hs7,_⟩
            have HS7:Hid (St WD w7 g X7 Ff (K + 1)):=hs7
            clear hs7 HQ HS5
            have HQ:Hid _:=HSW.out w7 X7 HS7.out
            go_wp2_with fail
            refine (show Calls _ _ _ _ _ from HQ.out).mono ?_
            rintro e w8 ⟨rfl,X8,hs8,_⟩
            have HS8:Hid (St WD w8 g X8 F2 (K + 32831)):=hs8
            clear hs8 HQ HS7 HSW hf1 hf2
            obtain ⟨nd,hnd⟩:∃ nd,F2.dir.length=nd:=⟨_,rfl⟩
            have HND:Hid (F2.dir.length=nd):=hnd
            have HNDL:Hid (nd ≤ 64):=by show _ ≤ _; rw [← hnd]; exact HS8.out.few.1
            clear hnd
            have HQ:Hid (Calls Tryz.prog 14 #[.pointer (some ⟨g,0,none⟩)] w8 fun e w'=>NowP w8 (nowM F2) nd e w'):=now_st HS8.out HND.out
            go_wp2_with fail
            refine (show Calls _ _ _ _ _ from HQ.out).mono ?_
            rintro e w9 ⟨P9,c9,rfl,hp9,hb9⟩
            have HS9:Hid (St WD w9 g X8 F2 (K + 32831)):=HS8.out.on hb9
            have HP9:Hid (PR w9 (.slice P9 nd c9) (nowM F2)):=hp9
            have HLN:Hid ((nowM F2).length=nd):=by show _=_; rw [now_len,HND.out]
            clear hp9 hb9 HQ HS8
            obtain ⟨sv,sb,hsv⟩:∃ sv sb,lookM (nowM F2) liveN=(sv,sb):=⟨_,_,rfl⟩
            have HLK:Hid (lookM (nowM F2) liveN=(sv,sb)):=hsv
            have HQ:Hid (Calls Tryz.prog 13 #[.slice P9 nd c9,.string { data:=#[100,117,109,112,46,114,100,98] }] w9 fun e w'=>e=.returned (.tuple #[.string sv,.bool sb])∧w'=w9):=by
              have:=find24_any (.slice P9 nd c9) (nowM F2) { data:=#[100,117,109,112,46,114,100,98] } (by rw [HLN.out]; have:=HNDL.out; omega) w9 HP9.out.kr
              rw [show lookM (nowM F2) { data:=#[100,117,109,112,46,114,100,98] }=(sv,sb) from HLK.out] at this
              exact this
            clear hsv
            go_wp2_with fail
            refine (show Calls _ _ _ _ _ from HQ.out).mono ?_
            rintro e w10 ⟨rfl,rfl⟩
            clear HQ
            by_cases he:e2=0
            · have h1:=HL1.out he
              rw [HLK.out] at h1
              injection h1 with h1 h2
              subst he h1 h2
              have q1:(sv.toList == sv.toList)=true:=beq_self_eq_true _
              clear HL1 HL2
              go_wp2
              go_returns
              exact ⟨rfl,by first | exact HBD.out.trans (HS9.out.bel.mono HBD.out.size) | (rw [← hR]; exact HBD.out.trans (HS9.out.bel.mono HBD.out.size))⟩
            · obtain ⟨h1,h2,h3⟩:=HL2.out he
              subst h1
              have HF6:Hid (∀ x ∈ nowM F2,isTmp x.1=false):=h2
              rw [HLK.out,HOV.out] at h3
              have HOR:Hid ((sv,sb)=(ov,ob) ∨ (sv,sb)=(last,true)):=h3
              clear he h2 h3 HL1 HL2
              go_wp2
              go_loopw [23] (fun ci wr=>∃ j:Nat,j ≤ nd∧ci=.int .i64 (j:Int)∧wr=w10) (fun ci _=>nd - (intOf ci).toNat)
              case atStart=>exact ⟨0,Nat.zero_le _,rfl,rfl⟩
              case round =>
                obtain ⟨j,hj,rfl,hwe⟩:=hrel
                subst hwe
                by_cases hlt:j < nd
                · obtain ⟨gp,op,c',he,hc⟩:=HP9.out.kr.cell pprOk (j:=j) (by rw [HLN.out]; exact hlt)
                  injection he with h1 _ h2
                  subst h1
                  have hm:=HF6.out _ (List.getElem_mem (l:=nowM F2) (n:=j) (by rw [HLN.out]; exact hlt))
                  obtain ⟨⟨X1,X2⟩,hX⟩:∃ X,(nowM F2)[j]'(by rw [HLN.out]; exact hlt)=X:=⟨_,rfl⟩
                  rw [hX] at hc hm
                  have x0:wr.cell? ⟨gp,op + j * 2,none⟩=some (.string X1):=hc 0 _ rfl
                  have hz0:(0:Int) ≤ (j:Int):=by omega
                  have hz1:(j:Int) < (nd:Int):=by omega
                  have HLT:Hid (j < nd):=hlt
                  have hiw:IntKind.i64.wrap ((j:Int) + 1)=(j:Int) + 1:=by have:=HNDL.out; rw [IntKind.wrap_i64] <;> omega
                  have HM:Hid (isTmp X1=false):=hm
                  clear hc h2 hX hm hlt
                  by_cases h5:5 ≤ X1.size
                  · have hi5:(5:Int) ≤ (X1.size:Int):=by omega
                    have q3:((X1.extract 0 5).toList == [116,101,109,112,45])=false:=by
                      rw [← temp_list]
                      refine str_other (ba_ne (fun e=>?_))
                      have:=HM.out
                      unfold isTmp at this
                      rw [decide_eq_true h5,decide_eq_true e] at this
                      cases this
                    clear h5
                    go_wp2
                    go_roundw
                    case rel=>exact ⟨j + 1,HLT.out,rfl,by first | rfl | trivial⟩
                    case measure=>have:=HLT.out; simp [intOf]; omega
                  · have hi5:¬ (5:Int) ≤ (X1.size:Int):=by omega
                    clear h5
                    go_wp2
                    go_roundw
                    case rel=>exact ⟨j + 1,HLT.out,rfl,by first | rfl | trivial⟩
                    case measure=>have:=HLT.out; simp [intOf]; omega
                · have he:j=nd:=by omega
                  subst he
                  clear hlt hj
                  rcases HOR.out with h | h
                  · injection h with h1 h2
                    subst h1 h2
                    have q1:(sv.toList == sv.toList)=true:=beq_self_eq_true _
                    have q2:(sb == sb)=true:=beq_self_eq_true _
                    go_wp2
                    go_returns
                    exact ⟨rfl,by first | exact HBD.out.trans (HS9.out.bel.mono HBD.out.size) | (rw [← hR]; exact HBD.out.trans (HS9.out.bel.mono HBD.out.size))⟩
                  · injection h with h1 h2
                    subst h1 h2
                    have q1:(sv.toList == sv.toList)=true:=beq_self_eq_true _
                    clear HOR HOV HLK
                    rcases hq:(sv.toList == ov.toList) with _ | _
                    · go_wp2
                      go_returns
                      exact ⟨rfl,by first | exact HBD.out.trans (HS9.out.bel.mono HBD.out.size) | (rw [← hR]; exact HBD.out.trans (HS9.out.bel.mono HBD.out.size))⟩
                    · rcases ob with _ | _
                      · go_wp2
                        go_returns
                        exact ⟨rfl,by first | exact HBD.out.trans (HS9.out.bel.mono HBD.out.size) | (rw [← hR]; exact HBD.out.trans (HS9.out.bel.mono HBD.out.size))⟩
                      · go_wp2
                        go_returns
                        exact ⟨rfl,by first | exact HBD.out.trans (HS9.out.bel.mono HBD.out.size) | (rw [← hR]; exact HBD.out.trans (HS9.out.bel.mono HBD.out.size))⟩
end Go.Proofs.YtbgbmfmgdgalbaaGreatDoor
