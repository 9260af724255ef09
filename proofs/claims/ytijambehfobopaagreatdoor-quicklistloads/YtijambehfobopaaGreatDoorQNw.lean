import Derived.Test.YtijambehfobopaaGreatDoorWAT
namespace Go.Proofs.YtijambehfobopaaGreatDoor
open Go.RowKit
set_option linter.unusedVariables false
set_option linter.unusedSimpArgs false
def mayB (e b:Int):Bool:=decide ((1 ≤ e∧e ≤ 4096)∧(0 ≤ b∧b ≤ 4096))
set_option maxHeartbeats 1000000 in
theorem mayBe_any (e b:Int) (w:World):Calls Tryz.prog 27 #[.agg #[.int .i64 e,.int .i64 b]] w fun r w'=>r=.returned (.bool (mayB e b))∧Below w.heap.size w w':=by
  have HM:Hid (mayB e b=decide ((1 ≤ e∧e ≤ 4096)∧(0 ≤ b∧b ≤ 4096))):=rfl
  by_cases h1:1 ≤ e
  · by_cases h2:e ≤ 4096
    · by_cases h3:0 ≤ b
      · by_cases h4:b ≤ 4096
        · have HD:Hid (mayB e b=true):=by show _=_; rw [HM.out]; simp [h1,h2,h3,h4]
          go_enter Tryz.func27,Tryz.ntmps27
          go_wp2
          go_returns
          exact ⟨by rw [HD.out]; rfl,(Below.refl _ w).alloc (Nat.le_refl _) _⟩
        · have HD:Hid (mayB e b=false):=by show _=_; rw [HM.out]; simp [h4]
          go_enter Tryz.func27,Tryz.ntmps27
          go_wp2
          go_returns
          exact ⟨by rw [HD.out]; rfl,(Below.refl _ w).alloc (Nat.le_refl _) _⟩
      · have HD:Hid (mayB e b=false):=by show _=_; rw [HM.out]; simp [h3]
        go_enter Tryz.func27,Tryz.ntmps27
        go_wp2
        go_returns
        exact ⟨by rw [HD.out]; rfl,(Below.refl _ w).alloc (Nat.le_refl _) _⟩
    · have HD:Hid (mayB e b=false):=by show _=_; rw [HM.out]; simp [h2]
      go_enter Tryz.func27,Tryz.ntmps27
      go_wp2
      go_returns
      exact ⟨by rw [HD.out]; rfl,(Below.refl _ w).alloc (Nat.le_refl _) _⟩
  · have HD:Hid (mayB e b=false):=by show _=_; rw [HM.out]; simp [h1]
    go_enter Tryz.func27,Tryz.ntmps27
    go_wp2
    go_returns
    exact ⟨by rw [HD.out]; rfl,(Below.refl _ w).alloc (Nat.le_refl _) _⟩
set_option maxHeartbeats 1000000 in
theorem newRow_none (w:World):Calls Tryz.prog 28 #[.slice none 0 0] w fun r w'=>r=.returned (.agg #[.slice none 0 0,.int .i64 0])∧Below w.heap.size w w':=by
  have HE:Hid (∀ W,Calls Tryz.prog 53 #[.slice none 0 0] W fun e w'=>e=.returned (.int .i64 0)∧Below W.heap.size W w'):=fun W=>by
    have:=elements_any 0 0 [] 0 none (fun h=>absurd rfl h) (by simp) (by simp [cntN]) W (fun t ht=>by simp at ht)
    simpa [cntN] using this
  go_enter Tryz.func28,Tryz.ntmps28
  go_wp2_with fail
  refine (show Calls _ _ _ _ _ from HE.out _).mono ?_
  rintro e w1 ⟨rfl,hb1⟩
  have HB1:Hid (Below w.heap.size w w1):=bel_to ((Below.refl _ w).alloc (Nat.le_refl _) _) hb1 (Nat.le_refl _)
  have hr:=keep_row (one_alloc w (.cells #[.slice none 0 0,.int .i64 0] 69)) hb1
  obtain ⟨c0,c1,cf⟩:=prow2 hr
  have hr2:((w1.setCell ⟨w.heap.size,0,none⟩ (.slice none 0 0)).setCell ⟨w.heap.size,1,none⟩ (.int .i64 0)).heap[w.heap.size]?=some (.cells #[.slice none 0 0,.int .i64 0] 69):=by
    rw [heap_setCell_same _ _ _ _ _ _ (heap_setCell_same _ _ _ _ _ _ hr)]; rfl
  have HR2:Hid _:=hr2
  clear hb1 hr hr2
  go_wp2
  obtain ⟨g0,g1,gf⟩:=prow2 HR2.out
  exact bodyPost_ret (v:=.agg #[.slice none 0 0,.int .i64 0]) (by simp [results,Tryz.results28,go_sem,g0,g1]) rfl ⟨rfl,(HB1.out.setCell (p:=⟨w.heap.size,0,none⟩) (Nat.le_refl _) _).setCell (p:=⟨w.heap.size,1,none⟩) (Nat.le_refl _) _⟩
set_option maxHeartbeats 1000000 in
theorem New_no (e b:Int) (h:mayB e b=false) (w:World):Calls Tryz.prog 14 #[.int .i64 e,.int .i64 b] w fun r w'=>r=.returned (.tuple #[.pointer none,.int .i64 1])∧Below w.heap.size w w':=by
  have HM:Hid (∀ W,Calls Tryz.prog 27 #[.agg #[.int .i64 e,.int .i64 b]] W fun r w'=>r=.returned (.bool false)∧Below W.heap.size W w'):=fun W=>by
    have:=mayBe_any e b W
    rw [h] at this; exact this
  clear h
  go_enter Tryz.func14,Tryz.ntmps14
  go_wp2_with fail
  refine (show Calls _ _ _ _ _ from HM.out _).mono ?_
  rintro r w1 ⟨rfl,hb1⟩
  have HB1:Hid (Below w.heap.size w w1):=bel_to ((Below.refl _ w).alloc (Nat.le_refl _) _) hb1 (Nat.le_refl _)
  clear hb1
  go_wp2
  go_returns
  exact ⟨rfl,HB1.out⟩
set_option maxHeartbeats 1000000 in
theorem New_yes (E B:Nat) (h:mayB (E:Int) (B:Int)=true) (w:World):Calls Tryz.prog 14 #[.int .i64 (E:Int),.int .i64 (B:Int)] w fun e w'=>∃ g r,e=.returned (.tuple #[ptr g,.int .i64 0])∧LS w' w.heap.size g r 1 [] (.slice none 0 0) E B (nds B [])∧Below w.heap.size w w':=by
  have HM:Hid (∀ W,Calls Tryz.prog 27 #[.agg #[.int .i64 (E:Int),.int .i64 (B:Int)]] W fun r w'=>r=.returned (.bool true)∧Below W.heap.size W w'):=fun W=>by
    have:=mayBe_any (E:Int) (B:Int) W
    rw [h] at this; exact this
  have HNR:Hid _:=newRow_none
  clear h
  go_enter Tryz.func14,Tryz.ntmps14
  go_wp2_with fail
  refine (show Calls _ _ _ _ _ from HM.out _).mono ?_
  rintro r w1 ⟨rfl,hb1⟩
  have HB1:Hid (Below w.heap.size w w1):=bel_to ((Below.refl _ w).alloc (Nat.le_refl _) _) hb1 (Nat.le_refl _)
  have hr:=keep_row (one_alloc w (.cells #[.int .i64 (E:Int),.int .i64 (B:Int)] 59)) hb1
  obtain ⟨c0,c1,cf⟩:=prow2 hr
  have HR:Hid _:=hr
  have hSA:=And.intro c0 c1
  have HKS:Hid (∀ w':World,Below w1.heap.size w1 w' → w'.cell? ⟨w.heap.size,0,none⟩=some (.int .i64 (E:Int))∧w'.cell? ⟨w.heap.size,1,none⟩=some (.int .i64 (B:Int))):=fun W hW=>And.intro (cell_on c0 hW) (cell_on c1 hW)
  clear hb1 hr c0 c1 cf
  go_wp2_with fail
  go_region_held3 (fun w':World=>w'.cell? ⟨w.heap.size,0,none⟩=some (.int .i64 (E:Int))∧w'.cell? ⟨w.heap.size,1,none⟩=some (.int .i64 (B:Int)))
    (first | exact hSA | exact HKS.out _ hx1 | exact HKS.out _ (hx1.alloc hx1.size _) | exact HKS.out _ ((hx1.alloc hx1.size _).alloc (by simp; have:=hx1.size; omega) _) | exact HKS.out _ ((Below.refl _ w1).drew))
    (first | (go_at_call 28; refine (show Calls _ _ _ _ _ from HNR.out _).mono ?_; rintro e a1 ⟨rfl,hb1⟩; have hx1:=bel_to ((Below.refl _ w1).drew) hb1 (Nat.le_refl _)))
  have hy:=bel_to HB1.out hx1 (Nat.le_refl _)
  obtain ⟨q1,q2,q3⟩:=two_rows (Below.refl ((a1.alloc (.cells #[.slice none 0 0,.int .i64 0] 69)).alloc (.cells #[.int .i64 (E:Int),.int .i64 (B:Int),.int .i64 0,.slice (some ⟨a1.heap.size,0,none⟩) 1 1] 62)).heap.size _)
  have hsz:=hy.size
  have HLS:Hid (LS ((a1.alloc (.cells #[.slice none 0 0,.int .i64 0] 69)).alloc (.cells #[.int .i64 (E:Int),.int .i64 (B:Int),.int .i64 0,.slice (some ⟨a1.heap.size,0,none⟩) 1 1] 62)) w.heap.size (a1.heap.size + 1) a1.heap.size 1 [] (.slice none 0 0) E B (nds B [])):=⟨q3,q2,Or.inl ⟨rfl,rfl⟩,by omega,hsz⟩
  have HBF:Hid (Below w.heap.size w ((a1.alloc (.cells #[.slice none 0 0,.int .i64 0] 69)).alloc (.cells #[.int .i64 (E:Int),.int .i64 (B:Int),.int .i64 0,.slice (some ⟨a1.heap.size,0,none⟩) 1 1] 62))):=bel_to hy q1 (Nat.le_refl _)
  clear hy q1 q2 q3 hx1 hb1 hSA
  go_wp2
  go_returns
  exact ⟨_,_,rfl,HLS.out,HBF.out⟩
end Go.Proofs.YtijambehfobopaaGreatDoor
