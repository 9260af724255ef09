import Derived.Test.YtjnbjfjoejfmpaaGreatDoorWAS
import Derived.Deep.RegionHeld3
namespace Go.Proofs.YtjnbjfjoejfmpaaGreatDoor
open Go.RowKit
set_option linter.unusedVariables false
set_option linter.unusedSimpArgs false
section
variable {ok:Nat → Prop}
set_option maxHeartbeats 2000000 in
set_option maxRecDepth 100000 in
theorem room_no (E B:Nat) (v:Value) (N:QM.NL) (n:Int) (hn:¬ (0 ≤ n∧n < (N.length:Int))) (w:World) (h:RL ok w v N) :
    Calls Tryz.prog 75 #[rlV E B v,.int .i64 n] w fun e w'=>e=.returned (.bool false)∧Below w.heap.size w w':=by
  obtain ⟨P,c,rfl⟩:=h.form
  obtain ⟨W0,hW0⟩:∃ W0,W0=w.alloc (.cells #[.int .i64 (E:Int),.int .i64 (B:Int),.slice P N.length c] 29):=⟨_,rfl⟩
  have HB0:Hid (Below w.heap.size w W0):=by show Below _ _ _; rw [hW0]; exact (Below.refl _ _).alloc (Nat.le_refl _) _
  have hrow:W0.heap[w.heap.size]?=some (.cells #[.int .i64 (E:Int),.int .i64 (B:Int),.slice P N.length c] 29):=by rw [hW0]; exact one_alloc _ _
  obtain ⟨c0,c1,c2,cf⟩:=row3 hrow
  clear h hrow
  by_cases h0:n < 0
  · clear hn
    have h0':decide (0 ≤ n)=false:=decide_eq_false (by omega)
    go_enter Tryz.func75,Tryz.ntmps75
    go_wp2_with fail
    rw [← hW0]
    clear hW0
    go_quiet (fail)
    all_goals go_wp2
    all_goals go_returns
    all_goals exact ⟨rfl,below_dn HB0.out _⟩
  · have h1:¬ (n < (N.length:Int)):=by omega
    have h0':decide (0 ≤ n)=true:=decide_eq_true (by omega)
    have h1':decide (n < (N.length:Int))=false:=decide_eq_false h1
    clear hn
    go_enter Tryz.func75,Tryz.ntmps75
    go_wp2_with fail
    rw [← hW0]
    clear hW0
    go_quiet (fail)
    all_goals go_wp2
    all_goals go_returns
    all_goals exact ⟨rfl,below_dn HB0.out _⟩
set_option maxHeartbeats 2000000 in
set_option maxRecDepth 100000 in
theorem room_yes (E B:Nat) (v:Value) (N:QM.NL) (n:Nat) (hn:n < N.length) (hne:N[n] ≠ []) (w:World) (h:RL ok w v N) :
    Calls Tryz.prog 75 #[rlV E B v,.int .i64 (n:Int)] w fun e w'=>e=.returned (.bool (QM.room E B N[n]))∧Below w.heap.size w w':=by
  obtain ⟨g,o,c,u,rfl,hcell,hdr⟩:=h.at_ hn
  obtain ⟨t,X,hX⟩:∃ t X,N[n]=t :: X:=by
    cases hq:N[n] with
    | nil=>exact absurd hq hne
    | cons t X=>exact ⟨t,X,rfl⟩
  rw [hX] at hdr ⊢
  obtain ⟨g2,o2,c2',hu,hc2⟩:=hdr.at_ (j:=0) (by simp)
  obtain ⟨LN,hLN⟩:∃ LN,(strV (t :: X)).length=LN:=⟨_,rfl⟩
  have hLN1:(t :: X).length=LN:=by rw [← hLN]; simp
  have hLN0:0 < LN:=by rw [← hLN]; simp
  rw [hLN] at hu
  subst hu
  have hc2':w.cell? ⟨g2,o2,none⟩=some (.string t):=by simpa using hc2
  have HRM:Hid (QM.room E B (t :: X)=(decide (LN < E) && !QM.big B t)):=by show _=_; unfold QM.room; rw [hLN1]; rfl
  have HLA:Hid (∀ W,Calls Tryz.prog 74 #[rlV E B (.slice (some ⟨g,o,none⟩) N.length c),.string t] W fun e w'=>e=.returned (.bool (QM.big B t))∧Below W.heap.size W w'):=fun W=>large_any E B _ _ _ t W
  obtain ⟨W0,hW0⟩:∃ W0,W0=w.alloc (.cells #[.int .i64 (E:Int),.int .i64 (B:Int),.slice (some ⟨g,o,none⟩) N.length c] 29):=⟨_,rfl⟩
  have HB0:Hid (Below w.heap.size w W0):=by show Below _ _ _; rw [hW0]; exact (Below.refl _ _).alloc (Nat.le_refl _) _
  have hrow:W0.heap[w.heap.size]?=some (.cells #[.int .i64 (E:Int),.int .i64 (B:Int),.slice (some ⟨g,o,none⟩) N.length c] 29):=by rw [hW0]; exact one_alloc _ _
  obtain ⟨c0,c1,c2,cf⟩:=row3 hrow
  have c3:=cell_on hcell HB0.out
  have c4:=cell_on hc2' HB0.out
  have hi0:(0:Int) ≤ (n:Int):=by omega
  have hi1:(n:Int) < (N.length:Int):=by omega
  have hi2:(0:Int) < (LN:Int):=by omega
  rw [HRM.out]
  generalize QM.big B t=bg at *
  clear h hrow hdr hcell hc2 hc2' hX hne HRM hLN hLN1
  by_cases hlt:LN < E
  · have hlt':(LN:Int) < (E:Int):=by omega
    have HS:Hid (∀ W,Below W0.heap.size W0 W → W.cell? ⟨w.heap.size,0,none⟩=some (.int .i64 (E:Int))∧W.cell? ⟨w.heap.size,1,none⟩=some (.int .i64 (B:Int))∧W.cell? ⟨w.heap.size,2,none⟩=some (.slice (some ⟨g,o,none⟩) N.length c)∧W.cell? ⟨g,o + n,none⟩=some (.slice (some ⟨g2,o2,none⟩) LN c2')∧W.cell? ⟨g2,o2,none⟩=some (.string t)):=fun W hW=>⟨cell_on c0 hW,cell_on c1 hW,cell_on c2 hW,cell_on c3 hW,cell_on c4 hW⟩
    have hS0:=HS.out W0 (Below.refl _ _)
    have hS1:=HS.out W0.drew (Below.refl _ _).drew
    have hd:decide (LN < E)=true:=decide_eq_true hlt
    rw [hd]
    go_enter Tryz.func75,Tryz.ntmps75
    go_wp2_with fail
    rw [← hW0]
    clear hW0
    go_region_held3 (fun w':World=>w'.cell? ⟨w.heap.size,0,none⟩=some (.int .i64 (E:Int))∧w'.cell? ⟨w.heap.size,1,none⟩=some (.int .i64 (B:Int))∧w'.cell? ⟨w.heap.size,2,none⟩=some (.slice (some ⟨g,o,none⟩) N.length c)∧w'.cell? ⟨g,o + n,none⟩=some (.slice (some ⟨g2,o2,none⟩) LN c2')∧w'.cell? ⟨g2,o2,none⟩=some (.string t))
      (first | exact hS0 | exact hS1 | exact HS.out _ hx5)
      (first | (go_at_call 74; refine (show Calls _ _ _ _ _ from HLA.out _).mono ?_; rintro e a5 ⟨rfl,hb5⟩; have hx5:=bel_to ((Below.refl _ W0).drew) hb5 (Nat.le_refl _)))
    have HX5:Hid _:=bel_to HB0.out hx5 (Nat.le_refl _)
    clear hx5 hb5
    go_wp2
    go_returns
    exact ⟨by first | rfl | simp,HX5.out⟩
  · have hlt':¬ ((LN:Int) < (E:Int)):=by omega
    have hd:decide (LN < E)=false:=decide_eq_false hlt
    have hd0:decide ((0:Int) ≤ (n:Int))=true:=decide_eq_true hi0
    have hd1:decide ((n:Int) < (N.length:Int))=true:=decide_eq_true hi1
    have hd2:decide ((LN:Int) < (E:Int))=false:=decide_eq_false hlt'
    rw [hd]
    go_enter Tryz.func75,Tryz.ntmps75
    go_wp2_with fail
    rw [← hW0]
    clear hW0
    go_quiet (fail)
    all_goals go_wp2
    all_goals go_returns
    all_goals exact ⟨rfl,below_dn HB0.out _⟩
end
end Go.Proofs.YtjnbjfjoejfmpaaGreatDoor
