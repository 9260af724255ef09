import Derived.Test.YtijambehfobopaaGreatDoorWAW
import Derived.Test.YtijambehfobopaaGreatDoorDY
import Derived.Deep.RegionWith
import Derived.Deep.Cut
import Derived.Deep.CutRange
namespace Go.Proofs.YtijambehfobopaaGreatDoor
open Go.RowKit
set_option linter.unusedVariables false
set_option linter.unusedSimpArgs false
abbrev isL (E B:Nat):Value:=.func (.func 52) #[.agg #[.int .i64 (E:Int),.int .i64 (B:Int)]] #[]
def LgIs (B:Nat) (X:List ByteArray) (k:Int):Prop:=(0 ≤ k∧∃ t ∈ X,B < t.size) ∨ (k < 0∧∀ t ∈ X,t.size ≤ B)
set_option maxHeartbeats 1000000 in
set_option maxRecDepth 100000 in
theorem idxL_any (E B:Nat) (hB:B ≤ 4096) (X:List ByteArray) (hX:∀ t ∈ X,t.size ≤ 524288) (hl:X.length ≤ 1048576) (b:Nat) (P:Option Addr) (c:Nat) (w:World) (ho:w.ownsRow b 9 1 (.slice P X.length c) X.length (strV X)) :
    Calls Tryz.prog 89 #[.slice P X.length c,isL E B] w fun e w'=>(∃ k:Int,e=.returned (.int .i64 k)∧LgIs B X k)∧Below w.heap.size w w':=by
  have HO:Hid _:=ho
  have HE:Hid (∀ t ∈ X,∀ W,Calls Tryz.prog 52 #[.agg #[.int .i64 (E:Int),.int .i64 (B:Int)],.string t] W fun e w'=>e=.returned (.bool (QM.big B t))∧Below W.heap.size W w'):=fun t ht W=>isLarge_any E B t (by have:=hX t ht; omega) hB W
  obtain ⟨n,hn⟩:∃ n,X.length=n:=⟨_,rfl⟩
  rw [hn] at HO hl ⊢
  have HN:Hid (X.length=n):=hn
  clear ho hn hX
  go_enter Tryz.func89,Tryz.ntmps89
  go_wp2
  go_loopw [8] (fun ci wr=>∃ i:Nat,i ≤ n∧ci=.int .i64 (i:Int)∧Below w.heap.size w wr∧∀ t (h:t < X.length),t < i → X[t].size ≤ B) (fun ci _=>n - (intOf ci).toNat)
  case atStart=>exact ⟨0,by omega,rfl,Below.refl _ _,fun t _ h=>by omega⟩
  case round =>
    obtain ⟨i,hi,rfl,hb,hall⟩:=hrel
    have HBR:Hid (Below w.heap.size w wr):=hb
    have HALL:Hid _:=hall
    by_cases hlt:i < n
    · obtain ⟨gl,cap9,cur9,hv9,hb9,hr9,hc9⟩:=own_addr HO.out (by omega)
      injection hv9 with e1 e2 e3
      subst e1
      have hix:i < X.length:=by rw [HN.out]; exact hlt
      have y0:=cell_on (hc9 i (.string X[i]) (by simp [strV,hix])) hb
      have hz0:(0:Int) ≤ (i:Int):=by omega
      have hz1:(i:Int) < (n:Int):=by omega
      have hiw:IntKind.i64.wrap ((i:Int) + 1)=(i:Int) + 1:=by rw [IntKind.wrap_i64] <;> omega
      have HM:Hid (X[i] ∈ X):=List.getElem_mem _
      have HEI:Hid _:=HE.out X[i] HM.out
      obtain ⟨bg,hbb⟩:∃ bg,QM.big B X[i]=bg:=⟨_,rfl⟩
      have HBG:Hid _:=hbb
      rw [hbb] at HEI
      have HXI:Hid (∀ h:i < X.length,X[i]=X[i]):=fun _=>rfl
      obtain ⟨t,ht⟩:∃ t,X[i]=t:=⟨_,rfl⟩
      have HT:Hid (∃ h:i < X.length,X[i]=t):=⟨hix,ht⟩
      rw [ht] at y0 HEI HM HBG
      clear hb hall hbb hc9 hr9 hb9 e2 e3 HXI ht
      go_wp2_with fail
      refine (show Calls _ _ _ _ _ from HEI.out _).mono ?_
      rintro e w1 ⟨rfl,hb1⟩
      have HB1:Hid (Below w.heap.size w w1):=bel_to HBR.out hb1 (Nat.le_refl _)
      clear hb1 y0
      cases bg with
      | true =>
        go_wp2
        go_returns
        exact ⟨⟨_,rfl,Or.inl ⟨by omega,t,HM.out,by have:=HBG.out; unfold QM.big at this; simpa using this⟩⟩,HB1.out⟩
      | false =>
        go_wp2
        go_roundw
        case rel =>
          refine ⟨i + 1,hlt,by congr 1,HB1.out,fun t' ht' hti=>?_⟩
          rcases Nat.lt_or_eq_of_le (Nat.le_of_lt_succ hti) with h1 | h1
          · exact HALL.out t' ht' h1
          · subst h1
            obtain ⟨_,q⟩:=HT.out
            rw [q]
            have:=HBG.out; unfold QM.big at this; simpa using this
        case measure=>simp [intOf]; omega
    · have hz1:¬ (i:Int) < (n:Int):=by omega
      clear hb hall
      go_wp2
      go_returns
      refine ⟨⟨_,rfl,Or.inr ⟨by omega,fun t ht=>?_⟩⟩,HBR.out⟩
      obtain ⟨j,hj,rfl⟩:=List.mem_iff_getElem.1 ht
      exact HALL.out j hj (by have:=HN.out; omega)
set_option maxHeartbeats 1000000 in
theorem contL_any (E B:Nat) (hB:B ≤ 4096) (X:List ByteArray) (hX:∀ t ∈ X,t.size ≤ 524288) (hl:X.length ≤ 1048576) (lg:Bool) (hlg:lg=true → ∃ t ∈ X,B < t.size) (hlf:lg=false → ∀ t ∈ X,t.size ≤ B) (b:Nat) (P:Option Addr) (c:Nat) (w:World) (ho:w.ownsRow b 9 1 (.slice P X.length c) X.length (strV X)) :
    Calls Tryz.prog 50 #[.slice P X.length c,isL E B] w fun e w'=>e=.returned (.bool lg)∧Below w.heap.size w w':=by
  have HI:Hid _:=idxL_any E B hB X hX hl b P c w ho
  have HLT:Hid _:=hlg
  have HLF:Hid _:=hlf
  clear ho hlg hlf hX hl
  generalize X.length=n at *
  go_enter Tryz.func50,Tryz.ntmps50
  go_wp2_with fail
  refine (show Calls _ _ _ _ _ from HI.out).mono ?_
  rintro e w1 ⟨⟨k,rfl,hk⟩,hb⟩
  have HB:Hid (Below w.heap.size w w1):=hb
  have HK:Hid _:=hk
  rcases hk with ⟨h1,t,ht,h2⟩ | ⟨h1,h2⟩
  · have hl:lg=true:=by
      cases lg with
      | true=>rfl
      | false=>have:=HLF.out rfl t ht; omega
    subst hl
    clear hb
    go_wp2
    go_returns
    exact ⟨by first | rfl | (simp; done) | (simp; omega),HB.out⟩
  · have hl:lg=false:=by
      cases lg with
      | false=>rfl
      | true=>obtain ⟨t,ht,q⟩:=HLT.out rfl; have:=h2 t ht; omega
    subst hl
    have hk0:¬ (0 ≤ k):=by omega
    clear hb
    go_wp2
    go_returns
    exact ⟨by first | rfl | (simp; done) | (simp; omega),HB.out⟩
set_option maxHeartbeats 4000000 in
set_option maxRecDepth 100000 in
theorem read_yes (E B:Nat) (hE:E ≤ 4096) (hB:B ≤ 4096) (X:List ByteArray) (hX:Fit X) (h1:1 ≤ X.length) (h2:X.length ≤ E) (hlg:QM.lg B X=true → X.length=1∧∃ t ∈ X,B < t.size) (hlf:QM.lg B X=false → ∀ t ∈ X,t.size ≤ B) (w:World) (hw:Lay w) :
    Calls Tryz.prog 20 #[.agg #[.int .i64 (E:Int),.int .i64 (B:Int)],.string (packN X)] w fun e w'=>e=.returned (.tuple #[.agg #[.string (packN X),.int .i64 (X.length:Int),.bool (QM.lg B X)],.bool true])∧Below w.heap.size w w':=by
  have HLN:Hid (∀ W,Lay W → Calls Tryz.prog 49 #[.string (packN X)] W fun e w'=>e=.returned (.tuple #[.int .i64 (X.length:Int),.int .i64 0])∧Below W.heap.size W w'):=fun W hW=>by
    have:=Len_ok (packN X) (itsOf X) hX.pk W hW
    rw [its_len] at this; exact this
  have HCL:Hid (∀ W,Calls Tryz.prog 23 #[.string (packN X)] W fun e w'=>e=.returned (.string (packN X))∧Below W.heap.size W w'):=fun W=>clone_any _ (pk_size hX.pk) W
  have HVA:Hid (∀ W,Lay W → Calls Tryz.prog 51 #[.agg #[.string (packN X),.int .i64 (X.length:Int),.bool false],.bool false] W fun e w'=>(∃ g,e=.returned (.slice (some ⟨g,0,none⟩) X.length X.length)∧w'.ownsRow W.heap.size 9 1 (.slice (some ⟨g,0,none⟩) X.length X.length) X.length (strV X))∧Below W.heap.size W w'):=fun W hW=>vals_any X hX false false W hW
  obtain ⟨lg,hlge⟩:∃ lg,QM.lg B X=lg:=⟨_,rfl⟩
  have HCO:Hid (∀ b P c W,W.ownsRow b 9 1 (.slice P X.length c) X.length (strV X) → Calls Tryz.prog 50 #[.slice P X.length c,isL E B] W fun e w'=>e=.returned (.bool lg)∧Below W.heap.size W w'):=fun b P c W ho=>contL_any E B hB X hX.short hX.len lg (fun h=>(hlg (by rw [hlge]; exact h)).2) (fun h=>hlf (by rw [hlge]; exact h)) b P c W ho
  have hone:lg=true → X.length=1:=fun h=>(hlg (by rw [hlge]; exact h)).1
  have HW:Hid (Lay w):=hw
  rw [hlge]
  clear hlge hlg hlf hX hw
  generalize packN X=PK at *
  generalize strV X=SV at *
  generalize X.length=n at *
  obtain ⟨W0,hW0⟩:∃ W0,W0=(w.alloc (.cells #[.int .i64 (E:Int),.int .i64 (B:Int)] 59)).alloc (.cells #[.string ⟨#[]⟩,.int .i64 0,.bool false] 55):=⟨_,rfl⟩
  have HB0:Hid (Below w.heap.size w W0):=by show Below _ _ _; rw [hW0]; exact ((Below.refl _ _).alloc (Nat.le_refl _) _).alloc (by simp) _
  have HR0:Hid (W0.heap[w.heap.size]?=some (.cells #[.int .i64 (E:Int),.int .i64 (B:Int)] 59)∧W0.heap[w.heap.size + 1]?=some (.cells #[.string ⟨#[]⟩,.int .i64 0,.bool false] 55)):=by
    rw [hW0]; obtain ⟨_,q2,q3⟩:=two_rows (Below.refl ((w.alloc (.cells #[.int .i64 (E:Int),.int .i64 (B:Int)] 59)).alloc (.cells #[.string ⟨#[]⟩,.int .i64 0,.bool false] 55)).heap.size _); exact ⟨q2,q3⟩
  go_enter Tryz.func20,Tryz.ntmps20
  go_wp2_with fail
  rw [← hW0]
  clear hW0
  refine (show Calls _ _ _ _ _ from HLN.out _ (HW.out.on HB0.out)).mono ?_
  rintro e w1 ⟨rfl,hb1⟩
  have HB1:Hid (Below W0.heap.size W0 w1):=hb1
  obtain ⟨b0,b1,bf⟩:=prow2 (keep_row HR0.out.1 hb1)
  have hz1:¬ ((n:Int) < 1):=by omega
  have hz2:¬ ((n:Int) > (E:Int)):=by omega
  clear hb1
  go_wp2_with fail
  refine (show Calls _ _ _ _ _ from HCL.out _).mono ?_
  rintro e w2 ⟨rfl,hb2⟩
  obtain ⟨W3,hW3⟩:∃ W3,W3=w2.alloc (.cells #[.string PK,.int .i64 (n:Int),.bool false] 55):=⟨_,rfl⟩
  have HX3:Hid (Below W0.heap.size W0 W3):=by show Below _ _ _; rw [hW3]; exact (bel_to HB1.out hb2 (Nat.le_refl _)).alloc (bel_to HB1.out hb2 (Nat.le_refl _)).size _
  have HR3:Hid (W3.heap[w2.heap.size]?=some (.cells #[.string PK,.int .i64 (n:Int),.bool false] 55)):=by show _=_; rw [hW3]; exact one_alloc _ _
  have HK:Hid (W0.heap.size ≤ w2.heap.size):=(bel_to HB1.out hb2 (Nat.le_refl _)).size
  clear hb2 b0 b1 bf
  go_upto_region 5 with fail
  rw [← hW3]
  clear hW3
  obtain ⟨kn,hkn⟩:∃ kn,w2.heap.size=kn:=⟨_,rfl⟩
  rw [hkn] at HR3 HK ⊢
  clear hkn
  have HRB:Hid (W3.heap[w.heap.size]?=some (.cells #[.int .i64 (E:Int),.int .i64 (B:Int)] 59)):=keep_row HR0.out.1 HX3.out
  have HLY:Hid (∀ W,Below W3.heap.size W3 W → Lay W):=fun W hW=>HW.out.on (bel_to HB0.out (bel_to HX3.out hW (Nat.le_refl _)) (Nat.le_refl _))
  go_cut [] from 31 to 36 (fun wx=>wx.heap[kn]?=some (.cells #[.string PK,.int .i64 (n:Int),.bool lg] 55)∧Below W0.heap.size W0 wx)
  case first =>
    obtain ⟨p0,p1,p2,pf⟩:=row3 HR3.out
    obtain ⟨b0,b1,bf⟩:=prow2 HRB.out
    go_region_with (first | (go_at_call 51; refine (show Calls _ _ _ _ _ from HVA.out _ (HLY.out _ (by repeat (first | exact Below.refl _ _ | refine Below.drew ?_)))).mono ?_; rintro e a4 ⟨⟨gv,rfl,hov⟩,hb4⟩; have hx4:Below W3.heap.size W3 a4:=bel_to (by repeat (first | exact Below.refl _ _ | refine Below.drew ?_)) hb4 (Nat.le_refl _); obtain ⟨p0',p1',p2',pf'⟩:=row3 (keep_row HR3.out hx4); obtain ⟨q0',q1',qf'⟩:=prow2 (keep_row HRB.out hx4)) | (go_at_call 50; refine (show Calls _ _ _ _ _ from HCO.out _ _ _ _ hov).mono ?_; rintro e a5 ⟨rfl,hb5⟩; have hx5:Below W3.heap.size W3 a5:=bel_to hx4 hb5 (Nat.le_refl _); obtain ⟨r0',r1',r2',rf'⟩:=row3 (keep_row HR3.out hx5)))
    all_goals
      have HRR:Hid ((a5.setCell ⟨kn,2,none⟩ (.bool lg)).heap[kn]?=some (.cells #[.string PK,.int .i64 (n:Int),.bool lg] 55)):=by show _=_; rw [heap_setCell_same _ _ _ _ _ _ (keep_row HR3.out hx5)]; rfl
      have HBB:Hid _:=(bel_to HX3.out hx5 (Nat.le_refl _)).setCell (p:=⟨kn,2,none⟩) HK.out (.bool lg)
      clear p0 p1 p2 pf b0 b1 bf p0' p1' p2' pf' q0' q1' qf' r0' r1' r2' rf' hx4 hx5 hb4 hb5 hov
      go_wp2_with fail
      go_meet
      exact ⟨HRR.out,HBB.out⟩
  case rest =>
    obtain ⟨hr6,hb6⟩:=hcut
    have HR6:Hid (wc.heap[w.heap.size + 1]?=some (.cells #[.string ⟨#[]⟩,.int .i64 0,.bool false] 55)):=keep_row HR0.out.2 hb6
    have HG:Hid _:=heap_set3 wc (w.heap.size + 1) 55 _ _ _ (.string PK) (.int .i64 (n:Int)) (.bool lg) HR6.out
    have HBF:Hid (Below w.heap.size w (((wc.setCell ⟨w.heap.size + 1,0,none⟩ (.string PK)).setCell ⟨w.heap.size + 1,1,none⟩ (.int .i64 (n:Int))).setCell ⟨w.heap.size + 1,2,none⟩ (.bool lg))):=(((bel_to HB0.out hb6 (Nat.le_refl _)).setCell (p:=⟨w.heap.size + 1,0,none⟩) (by simp) _).setCell (p:=⟨w.heap.size + 1,1,none⟩) (by simp) _).setCell (p:=⟨w.heap.size + 1,2,none⟩) (by simp) _
    obtain ⟨p0,p1,p2,pf⟩:=row3 hr6
    obtain ⟨z0,z1,z2,zf⟩:=row3 HR6.out
    clear hr6 hb6
    cases lg with
    | true =>
      have hn1:n=1:=hone rfl
      have hq1:((n:Int) == 1)=true:=by simp [hn1]
      clear hn1 hone
      go_wp2
      obtain ⟨g0,g1,g2,gf⟩:=row3 HG.out.1
      exact bodyPost_ret (v:=.tuple #[.agg #[.string PK,.int .i64 (n:Int),.bool true],.bool true]) (by simp [results,Tryz.results20,go_sem,g0,g1,g2]) rfl ⟨rfl,HBF.out⟩
    | false =>
      go_wp2
      obtain ⟨g0,g1,g2,gf⟩:=row3 HG.out.1
      exact bodyPost_ret (v:=.tuple #[.agg #[.string PK,.int .i64 (n:Int),.bool false],.bool true]) (by simp [results,Tryz.results20,go_sem,g0,g1,g2]) rfl ⟨rfl,HBF.out⟩
end Go.Proofs.YtijambehfobopaaGreatDoor
