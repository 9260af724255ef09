import Derived.Test.YtijambehfobopaaGreatDoorShB
import Derived.Test.YtijambehfobopaaGreatDoorWAM
import Derived.Test.YtijambehfobopaaGreatDoorWAS
namespace Go.Proofs.YtijambehfobopaaGreatDoor
open Go.RowKit
set_option linter.unusedVariables false
set_option linter.unusedSimpArgs false
theorem Len_bad (p:ByteArray) (hp:p.size ≤ 281474976710656) (h:∀ l,¬ LM.Pk p.data.toList l) (w:World) (hw:Lay w):Calls Tryz.prog 49 #[.string p] w fun e w'=>e=.returned (.tuple #[.int .i64 0,.int .i64 60])∧Below w.heap.size w w':=by
  have HRH:Hid (Calls Tryz.prog 88 #[.string p] w (rdP p w)):=read_any p hp w hw
  have HP:Hid _:=h
  clear hw h hp
  go_enter Tryz.func49,Tryz.ntmps49
  go_wp2_with fail
  refine (show Calls _ _ _ _ _ from HRH.out).mono ?_
  rintro e w1 ⟨⟨l',hl',rfl⟩ | ⟨hno,rfl⟩,hb1⟩
  · exact absurd hl' (HP.out l')
  · have HB:Hid (Below w.heap.size w w1):=hb1
    clear hb1 hno
    go_wp2
    go_ret2
    exact ⟨rfl,HB.out.alloc HB.out.size _⟩
set_option maxHeartbeats 4000000 in
set_option maxRecDepth 100000 in
theorem read_gen (E B:Nat) (hE:E ≤ 4096) (hB:B ≤ 4096) (X:List ByteArray) (hX:Fit X) (h1:1 ≤ X.length) (h2:X.length ≤ E) (lg:Bool) (hlg:lg=true → ∃ t ∈ X,B < t.size) (hlf:lg=false → ∀ t ∈ X,t.size ≤ B) (w:World) (hw:Lay w) :
    Calls Tryz.prog 20 #[.agg #[.int .i64 (E:Int),.int .i64 (B:Int)],.string (packN X)] w fun e w'=>e=.returned (.tuple #[.agg #[.string (packN X),.int .i64 (X.length:Int),.bool lg],.bool (!lg || (X.length == 1))])∧Below w.heap.size w w':=by
  have HLN:Hid (∀ W,Lay W → Calls Tryz.prog 49 #[.string (packN X)] W fun e w'=>e=.returned (.tuple #[.int .i64 (X.length:Int),.int .i64 0])∧Below W.heap.size W w'):=fun W hW=>by
    have:=Len_ok (packN X) (itsOf X) hX.pk W hW
    rw [its_len] at this; exact this
  have HCL:Hid (∀ W,Calls Tryz.prog 23 #[.string (packN X)] W fun e w'=>e=.returned (.string (packN X))∧Below W.heap.size W w'):=fun W=>clone_any _ (pk_size hX.pk) W
  have HVA:Hid (∀ W,Lay W → Calls Tryz.prog 51 #[.agg #[.string (packN X),.int .i64 (X.length:Int),.bool false],.bool false] W fun e w'=>(∃ g,e=.returned (.slice (some ⟨g,0,none⟩) X.length X.length)∧w'.ownsRow W.heap.size 9 1 (.slice (some ⟨g,0,none⟩) X.length X.length) X.length (strV X))∧Below W.heap.size W w'):=fun W hW=>vals_any X hX false false W hW
  have HCO:Hid (∀ b P c W,W.ownsRow b 9 1 (.slice P X.length c) X.length (strV X) → Calls Tryz.prog 50 #[.slice P X.length c,isL E B] W fun e w'=>e=.returned (.bool lg)∧Below W.heap.size W w'):=fun b P c W ho=>contL_any E B hB X hX.short hX.len lg hlg hlf b P c W ho
  have HW:Hid (Lay w):=hw
  clear hlg hlf hX hw
  generalize packN X=PK at *
  generalize strV X=SV at *
  generalize X.length=n at *
  obtain ⟨W0,hW0⟩:∃ W0,W0=(w.alloc (.cells #[.int .i64 (E:Int),.int .i64 (B:Int)] 59)).alloc (.cells #[.string ⟨#[]⟩,.int .i64 0,.bool false] 55):=⟨_,rfl⟩
  have HB0:Hid (Below w.heap.size w W0):=by show Below _ _ _; rw [hW0]; exact ((Below.refl _ _).alloc (Nat.le_refl _) _).alloc (by simp) _
  have HR0:Hid (W0.heap[w.heap.size]?=some (.cells #[.int .i64 (E:Int),.int .i64 (B:Int)] 59)∧W0.heap[w.heap.size + 1]?=some (.cells #[.string ⟨#[]⟩,.int .i64 0,.bool false] 55)):=by
    rw [hW0]; obtain ⟨_,q2,q3⟩:=two_rows (Below.refl ((w.alloc (.cells #[.int .i64 (E:Int),.int .i64 (B:Int)] 59)).alloc (.cells #[.string ⟨#[]⟩,.int .i64 0,.bool false] 55)).heap.size _); exact ⟨q2,q3⟩
  go_enter Tryz.func20,Tryz.ntmps20
  go_wp2_with fail
  rw [← hW0]
  clear hW0
  refine (show Calls _ _ _ _ _ from HLN.out _ (HW.out.on HB0.out)).mono ?_
  rintro e w1 ⟨rfl,hb1⟩
  have HB1:Hid (Below W0.heap.size W0 w1):=hb1
  obtain ⟨b0,b1,bf⟩:=prow2 (keep_row HR0.out.1 hb1)
  have hz1:¬ ((n:Int) < 1):=by omega
  have hz2:¬ ((n:Int) > (E:Int)):=by omega
  clear hb1
  go_wp2_with fail
  refine (show Calls _ _ _ _ _ from HCL.out _).mono ?_
  rintro e w2 ⟨rfl,hb2⟩
  obtain ⟨W3,hW3⟩:∃ W3,W3=w2.alloc (.cells #[.string PK,.int .i64 (n:Int),.bool false] 55):=⟨_,rfl⟩
  have HX3:Hid (Below W0.heap.size W0 W3):=by show Below _ _ _; rw [hW3]; exact (bel_to HB1.out hb2 (Nat.le_refl _)).alloc (bel_to HB1.out hb2 (Nat.le_refl _)).size _
  have HR3:Hid (W3.heap[w2.heap.size]?=some (.cells #[.string PK,.int .i64 (n:Int),.bool false] 55)):=by show _=_; rw [hW3]; exact one_alloc _ _
  have HK:Hid (W0.heap.size ≤ w2.heap.size):=(bel_to HB1.out hb2 (Nat.le_refl _)).size
  clear hb2 b0 b1 bf
  go_upto_region 5 with fail
  rw [← hW3]
  clear hW3
  obtain ⟨kn,hkn⟩:∃ kn,w2.heap.size=kn:=⟨_,rfl⟩
  rw [hkn] at HR3 HK ⊢
  clear hkn
  have HRB:Hid (W3.heap[w.heap.size]?=some (.cells #[.int .i64 (E:Int),.int .i64 (B:Int)] 59)):=keep_row HR0.out.1 HX3.out
  have HLY:Hid (∀ W,Below W3.heap.size W3 W → Lay W):=fun W hW=>HW.out.on (bel_to HB0.out (bel_to HX3.out hW (Nat.le_refl _)) (Nat.le_refl _))
  go_cut [] from 31 to 36 (fun wx=>wx.heap[kn]?=some (.cells #[.string PK,.int .i64 (n:Int),.bool lg] 55)∧Below W0.heap.size W0 wx)
  case first =>
    obtain ⟨p0,p1,p2,pf⟩:=row3 HR3.out
    obtain ⟨b0,b1,bf⟩:=prow2 HRB.out
    go_region_with (first | (go_at_call 51; refine (show Calls _ _ _ _ _ from HVA.out _ (HLY.out _ (by repeat (first | exact Below.refl _ _ | refine Below.drew ?_)))).mono ?_; rintro e a4 ⟨⟨gv,rfl,hov⟩,hb4⟩; have hx4:Below W3.heap.size W3 a4:=bel_to (by repeat (first | exact Below.refl _ _ | refine Below.drew ?_)) hb4 (Nat.le_refl _); obtain ⟨p0',p1',p2',pf'⟩:=row3 (keep_row HR3.out hx4); obtain ⟨q0',q1',qf'⟩:=prow2 (keep_row HRB.out hx4)) | (go_at_call 50; refine (show Calls _ _ _ _ _ from HCO.out _ _ _ _ hov).mono ?_; rintro e a5 ⟨rfl,hb5⟩; have hx5:Below W3.heap.size W3 a5:=bel_to hx4 hb5 (Nat.le_refl _); obtain ⟨r0',r1',r2',rf'⟩:=row3 (keep_row HR3.out hx5)))
    all_goals
      have HRR:Hid ((a5.setCell ⟨kn,2,none⟩ (.bool lg)).heap[kn]?=some (.cells #[.string PK,.int .i64 (n:Int),.bool lg] 55)):=by show _=_; rw [heap_setCell_same _ _ _ _ _ _ (keep_row HR3.out hx5)]; rfl
      have HBB:Hid _:=(bel_to HX3.out hx5 (Nat.le_refl _)).setCell (p:=⟨kn,2,none⟩) HK.out (.bool lg)
      clear p0 p1 p2 pf b0 b1 bf p0' p1' p2' pf' q0' q1' qf' r0' r1' r2' rf' hx4 hx5 hb4 hb5 hov
      go_wp2_with fail
      go_meet
      exact ⟨HRR.out,HBB.out⟩
  case rest =>
    obtain ⟨hr6,hb6⟩:=hcut
    have HR6:Hid (wc.heap[w.heap.size + 1]?=some (.cells #[.string ⟨#[]⟩,.int .i64 0,.bool false] 55)):=keep_row HR0.out.2 hb6
    have HG:Hid _:=heap_set3 wc (w.heap.size + 1) 55 _ _ _ (.string PK) (.int .i64 (n:Int)) (.bool lg) HR6.out
    have HBF:Hid (Below w.heap.size w (((wc.setCell ⟨w.heap.size + 1,0,none⟩ (.string PK)).setCell ⟨w.heap.size + 1,1,none⟩ (.int .i64 (n:Int))).setCell ⟨w.heap.size + 1,2,none⟩ (.bool lg))):=(((bel_to HB0.out hb6 (Nat.le_refl _)).setCell (p:=⟨w.heap.size + 1,0,none⟩) (by simp) _).setCell (p:=⟨w.heap.size + 1,1,none⟩) (by simp) _).setCell (p:=⟨w.heap.size + 1,2,none⟩) (by simp) _
    obtain ⟨p0,p1,p2,pf⟩:=row3 hr6
    obtain ⟨z0,z1,z2,zf⟩:=row3 HR6.out
    clear hr6 hb6
    cases lg with
    | true =>
      by_cases hn1:n=1
      · have hq1:((n:Int) == 1)=true:=by simp [hn1]
        have HQ2:Hid ((n == 1)=true):=by show _=_; simp [hn1]
        clear hn1
        go_wp2
        obtain ⟨g0,g1,g2,gf⟩:=row3 HG.out.1
        exact bodyPost_ret (v:=.tuple #[.agg #[.string PK,.int .i64 (n:Int),.bool true],.bool true]) (by simp [results,Tryz.results20,go_sem,g0,g1,g2]) rfl ⟨by rw [HQ2.out]; rfl,HBF.out⟩
      · have hq1:((n:Int) == 1)=false:=by simp; omega
        have HQ2:Hid ((n == 1)=false):=by show _=_; simpa using hn1
        clear hn1
        go_wp2
        obtain ⟨g0,g1,g2,gf⟩:=row3 HG.out.1
        exact bodyPost_ret (v:=.tuple #[.agg #[.string PK,.int .i64 (n:Int),.bool true],.bool false]) (by simp [results,Tryz.results20,go_sem,g0,g1,g2]) rfl ⟨by rw [HQ2.out]; rfl,HBF.out⟩
    | false =>
      go_wp2
      obtain ⟨g0,g1,g2,gf⟩:=row3 HG.out.1
      exact bodyPost_ret (v:=.tuple #[.agg #[.string PK,.int .i64 (n:Int),.bool false],.bool (!false || (n == 1))]) (by simp [results,Tryz.results20,go_sem,g0,g1,g2]) rfl ⟨rfl,HBF.out⟩
set_option maxHeartbeats 4000000 in
set_option maxRecDepth 100000 in
theorem read_few (E B:Nat) (hE:E ≤ 4096) (p:ByteArray) (c err:Int) (hc0:0 ≤ c) (hc1:c ≤ 1073741824) (hbad:(err != 0)=true ∨ ((err != 0)=false∧(c < 1 ∨ (¬ c < 1∧c > (E:Int))))) (w:World)
    (hlen:∀ W,Below w.heap.size w W → Calls Tryz.prog 49 #[.string p] W fun e w'=>e=.returned (.tuple #[.int .i64 c,.int .i64 err])∧Below W.heap.size W w') :
    Calls Tryz.prog 20 #[.agg #[.int .i64 (E:Int),.int .i64 (B:Int)],.string p] w fun e w'=>e=.returned (.tuple #[.agg #[.string ⟨#[]⟩,.int .i64 0,.bool false],.bool false])∧Below w.heap.size w w':=by
  obtain ⟨W0,hW0⟩:∃ W0,W0=(w.alloc (.cells #[.int .i64 (E:Int),.int .i64 (B:Int)] 59)).alloc (.cells #[.string ⟨#[]⟩,.int .i64 0,.bool false] 55):=⟨_,rfl⟩
  have HB0:Hid (Below w.heap.size w W0):=by show Below _ _ _; rw [hW0]; exact ((Below.refl _ _).alloc (Nat.le_refl _) _).alloc (by simp) _
  have HR0:Hid (W0.heap[w.heap.size]?=some (.cells #[.int .i64 (E:Int),.int .i64 (B:Int)] 59)∧W0.heap[w.heap.size + 1]?=some (.cells #[.string ⟨#[]⟩,.int .i64 0,.bool false] 55)):=by
    rw [hW0]; obtain ⟨_,q2,q3⟩:=two_rows (Below.refl ((w.alloc (.cells #[.int .i64 (E:Int),.int .i64 (B:Int)] 59)).alloc (.cells #[.string ⟨#[]⟩,.int .i64 0,.bool false] 55)).heap.size _); exact ⟨q2,q3⟩
  have HLN:Hid _:=hlen W0 HB0.out
  clear hlen
  rcases hbad with hb | ⟨hb,hb2 | ⟨hb2,hb3⟩⟩
  all_goals
    go_enter Tryz.func20,Tryz.ntmps20
    go_wp2_with fail
    rw [← hW0]
    clear hW0
    refine (show Calls _ _ _ _ _ from HLN.out).mono ?_
    rintro e w1 ⟨rfl,hb1⟩
    have HB1:Hid (Below W0.heap.size W0 w1):=hb1
    obtain ⟨b0,b1,bf⟩:=prow2 (keep_row HR0.out.1 hb1)
    have hrn:=keep_row HR0.out.2 hb1
    obtain ⟨z0,z1,z2,zf⟩:=row3 hrn
    have HG:Hid _:=heap_set3 w1 (w.heap.size + 1) 55 _ _ _ (.string ⟨#[]⟩) (.int .i64 0) (.bool false) hrn
    have HBF:Hid (Below w.heap.size w (((w1.setCell ⟨w.heap.size + 1,0,none⟩ (.string ⟨#[]⟩)).setCell ⟨w.heap.size + 1,1,none⟩ (.int .i64 0)).setCell ⟨w.heap.size + 1,2,none⟩ (.bool false))):=(((bel_to HB0.out hb1 (Nat.le_refl _)).setCell (p:=⟨w.heap.size + 1,0,none⟩) (by simp) _).setCell (p:=⟨w.heap.size + 1,1,none⟩) (by simp) _).setCell (p:=⟨w.heap.size + 1,2,none⟩) (by simp) _
    clear hb1 hrn
    go_wp2
    obtain ⟨g0,g1,g2,gf⟩:=row3 HG.out.1
    exact bodyPost_ret (v:=.tuple #[.agg #[.string ⟨#[]⟩,.int .i64 0,.bool false],.bool false]) (by simp [results,Tryz.results20,go_sem,g0,g1,g2]) rfl ⟨rfl,HBF.out⟩
def goodX (E B:Nat) (X:List ByteArray):Prop:=Fit X∧1 ≤ X.length∧X.length ≤ E∧(X.length=1 ∨ ∀ t ∈ X,t.size ≤ B)
def goodP (E B:Nat) (p:ByteArray):Prop:=∃ X,p=packN X∧goodX E B X
theorem pk_pack {p:ByteArray} {l:List LM.Item} (h:LM.Pk p.data.toList l):p=packN (valsOf l)∧Fit (valsOf l):=by
  have h1:=its_valsOf h
  obtain ⟨h2,h3,h4⟩:=pk_sumV h
  refine ⟨bytes_ext (by unfold packN; rw [h1,strB_list]),?_⟩
  have h5:=(fI_nil (valsOf l)).1 (pk_fit h)
  exact ⟨h5.2.1,h5.1,h5.2.2⟩
theorem read_good (E B:Nat) (hE:E ≤ 4096) (hB:B ≤ 4096) (X:List ByteArray) (h:goodX E B X) (w:World) (hw:Lay w) :
    Calls Tryz.prog 20 #[.agg #[.int .i64 (E:Int),.int .i64 (B:Int)],.string (packN X)] w fun e w'=>e=.returned (.tuple #[.agg #[.string (packN X),.int .i64 (X.length:Int),.bool (QM.lg B X)],.bool true])∧Below w.heap.size w w':=by
  obtain ⟨h1,h2,h3,h4⟩:=h
  have hc:(QM.lg B X=true → X.length=1∧∃ t ∈ X,B < t.size)∧(QM.lg B X=false → ∀ t ∈ X,t.size ≤ B):=by
    cases X with
    | nil=>simp at h2
    | cons t r =>
      simp only [QM.lg]
      rcases h4 with h4 | h4
      · have hr:r=[]:=by simpa using h4
        subst hr
        exact ⟨fun h=>⟨rfl,t,by simp,by simpa using h⟩,fun h x hx=>by simp at hx; subst hx; simpa using h⟩
      · exact ⟨fun h=>by have:=h4 t (by simp); simp at h; omega,fun _=>h4⟩
  exact read_yes E B hE hB X h1 h2 h3 hc.1 hc.2 w hw
theorem read_bad (E B:Nat) (hE:E ≤ 4096) (hB:B ≤ 4096) (p:ByteArray) (hp:p.size ≤ 281474976710656) (h:¬ goodP E B p) (w:World) (hw:Lay w) :
    Calls Tryz.prog 20 #[.agg #[.int .i64 (E:Int),.int .i64 (B:Int)],.string p] w fun e w'=>∃ (s:ByteArray) (c:Nat) (lg:Bool),(e=.returned (.tuple #[.agg #[.string s,.int .i64 (c:Int),.bool lg],.bool false]))∧Below w.heap.size w w':=by
  by_cases hpk:∃ l,LM.Pk p.data.toList l
  · obtain ⟨l,hl⟩:=hpk
    obtain ⟨rfl,hf⟩:=pk_pack hl
    generalize valsOf l=X at *
    have hlen:∀ W,Lay W → Calls Tryz.prog 49 #[.string (packN X)] W fun e w'=>e=.returned (.tuple #[.int .i64 (X.length:Int),.int .i64 0])∧Below W.heap.size W w':=fun W hW=>by
      have:=Len_ok (packN X) (itsOf X) hf.pk W hW
      rw [its_len] at this; exact this
    by_cases hc:1 ≤ X.length∧X.length ≤ E
    · by_cases hall:∀ t ∈ X,t.size ≤ B
      · exact absurd ⟨X,rfl,hf,hc.1,hc.2,Or.inr hall⟩ h
      · have h1:X.length ≠ 1:=fun e=>h ⟨X,rfl,hf,hc.1,hc.2,Or.inl e⟩
        have hex:∃ t ∈ X,B < t.size:=by
          apply Classical.byContradiction
          intro hn
          exact hall (fun t ht=>Nat.le_of_not_lt (fun hlt=>hn ⟨t,ht,hlt⟩))
        refine (read_gen E B hE hB X hf hc.1 hc.2 true (fun _=>hex) (fun e=>by cases e) w hw).mono ?_
        rintro e w' ⟨rfl,hb⟩
        have hq:(X.length == 1)=false:=by simpa using h1
        exact ⟨packN X,X.length,true,by rw [hq]; rfl,hb⟩
    · refine (read_few E B hE (packN X) (X.length:Int) 0 (by omega) (by have:=hf.len; omega) (Or.inr ⟨rfl,?_⟩) w (fun W hW=>hlen W (hw.on hW))).mono ?_
      · by_cases h0:X.length=0
        · left; omega
        · right; exact ⟨by omega,by omega⟩
      · rintro e w' ⟨rfl,hb⟩
        exact ⟨⟨#[]⟩,0,false,rfl,hb⟩
  · refine (read_few E B hE p 0 60 (by omega) (by omega) (Or.inl rfl) w (fun W hW=>Len_bad p hp (fun l hl=>hpk ⟨l,hl⟩) W (hw.on hW))).mono ?_
    rintro e w' ⟨rfl,hb⟩
    exact ⟨⟨#[]⟩,0,false,rfl,hb⟩
end Go.Proofs.YtijambehfobopaaGreatDoor
