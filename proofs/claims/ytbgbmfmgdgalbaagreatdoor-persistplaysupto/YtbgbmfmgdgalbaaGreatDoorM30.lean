import Derived.Test.YtbgbmfmgdgalbaaGreatDoorM21
import Derived.Test.YtbgbmfmgdgalbaaGreatDoorM08
import Derived.Test.YtbgbmfmgdgalbaaGreatDoorM22
namespace Go.Proofs.YtbgbmfmgdgalbaaGreatDoor
open Go.RowKit Go.Maps
set_option linter.unusedVariables false
set_option linter.unusedSimpArgs false
def seqM:List (Fs → Fs × Int) → Fs → Fs × Int
  | [],F=>(F,0)
  | m :: l,F=>andM (m F) (seqM l)
theorem and_assoc (r:Fs × Int) (f g:Fs → Fs × Int):andM (andM r f) g=andM r fun G=>andM (f G) g:=by
  by_cases h:r.2=0
  · rw [andM_ok (f:=f) h,andM_ok (f:=fun G=>andM (f G) g) h]
  · rw [andM_no (f:=f) h,andM_no h,andM_no h]
theorem and_end (r:Fs × Int):andM r (fun G=>(G,0))=r:=by
  by_cases h:r.2=0
  · rw [andM_ok h,← h]
  · rw [andM_no h]
theorem seq_app:∀ (A B:List (Fs → Fs × Int)) (F:Fs),seqM (A ++ B) F=andM (seqM A F) (seqM B)
  | [],B,F=>(andM_ok (r:=(F,0)) rfl).symm
  | m :: A,B,F=>by
    show andM (m F) (seqM (A ++ B))=andM (andM (m F) (seqM A)) (seqM B)
    rw [and_assoc]
    congr 1
    exact funext fun G=>seq_app A B G
theorem seq_one (m:Fs → Fs × Int) (F:Fs):seqM [m] F=m F:=and_end _
def piecesL:Nat → ByteArray → List ByteArray
  | 0,_=>[]
  | k + 1,t=>if t.size=0 then [] else t.extract 0 (min 65536 t.size) :: piecesL k (t.extract (min 65536 t.size) t.size)
theorem seq_apps (n:ByteArray):∀ (k:Nat) (t:ByteArray) (F:Fs),seqM ((piecesL k t).map fun p G=>appendM G n p) F=appsM k F n t
  | 0,t,F=>rfl
  | k + 1,t,F=>by
    unfold piecesL appsM
    by_cases h:t.size=0
    · rw [if_pos h,if_pos h]; rfl
    · rw [if_neg h,if_neg h]
      show andM (appendM F n _) (seqM _)=_
      congr 1
      exact funext fun G=>seq_apps n k _ G
def writeL (n t:ByteArray):List (Fs → Fs × Int):=(fun G=>createM G n) :: ((piecesL t.size t).map fun p G=>appendM G n p) ++ [fun G=>syncM G n]
theorem seq_write (n t:ByteArray) (F:Fs):seqM (writeL n t) F=writtenM F n t:=by
  unfold writeL writtenM
  show andM (createM F n) (seqM (((piecesL t.size t).map fun p G=>appendM G n p) ++ [fun G=>syncM G n]))=_
  congr 1
  refine funext fun G=>?_
  rw [seq_app,seq_apps]
  congr 1
  exact funext fun G=>seq_one _ G
theorem named_live:namedM liveN=true:=by decide
theorem has_down {F:Fs} {n:ByteArray} (h:F.down=true):hasM F n=203:=by unfold hasM; rw [if_pos h]
theorem there_iff {F:Fs} {n:ByteArray}:thereM F n=true ↔ hasM F n=0:=by
  unfold thereM readM
  rw [decide_eq_true_eq]
  by_cases h:hasM F n=0
  · rw [if_pos h]; simp [h]
  · rw [if_neg h]
theorem there_down {F:Fs} {n:ByteArray} (h:F.down=true):thereM F n=false:=by
  rcases hb:thereM F n with _ | _
  · rfl
  · have:=there_iff.1 hb
    rw [has_down h] at this
    exact absurd this (by decide)
theorem rename_down {F:Fs} {n t:ByteArray} (h:F.down=true):renameM F n t=(F,203):=by
  unfold renameM
  rw [h,has_down h]
  rfl
theorem syncDir_down {F:Fs} (h:F.down=true):syncDirM F=(F,203):=by unfold syncDirM; rw [if_pos h]
def ifThM (n:ByteArray) (m:Fs → Fs × Int) (F:Fs):Fs × Int:=if F.down then (F,203) else if thereM F n then m F else (F,0)
def renS (i:Nat):Fs → Fs × Int:=ifThM (oldN i) (fun G=>renameM G (oldN i) (oldN (i + 1)))
def remS (i:Nat):Fs → Fs × Int:=ifThM (oldN i) (fun G=>removeM G (oldN i))
def rensL:Nat → List (Fs → Fs × Int)
  | 0=>[]
  | i + 1=>renS (i + 1) :: rensL i
def remsL:Nat → List (Fs → Fs × Int)
  | 0=>[]
  | m + 1=>remS (8 - m) :: remsL m
theorem rens_down {F:Fs} (h:F.down=true):∀ i,rensM i F=(F,0)
  | 0=>rfl
  | i + 1=>by
    unfold rensM
    rw [there_down h]
    exact rens_down h i
theorem rems_down {F:Fs} (h:F.down=true):∀ i,remsM i F=(F,0)
  | 0=>rfl
  | i + 1=>by
    unfold remsM
    rw [there_down h]
    exact rems_down h i
theorem ifTh_down {F:Fs} {n:ByteArray} {m:Fs → Fs × Int} (h:F.down=true):ifThM n m F=(F,203):=by unfold ifThM; rw [if_pos h]
theorem seq_rens (n t:ByteArray):∀ (i:Nat) (F:Fs),andM (seqM (rensL i) F) (fun G=>renameM G n t)=andM (rensM i F) (fun G=>renameM G n t)
  | 0,F=>rfl
  | i + 1,F=>by
    show andM (andM (renS (i + 1) F) (seqM (rensL i))) _=_
    unfold renS
    by_cases hd:F.down=true
    · rw [ifTh_down hd,andM_no (r:=(F,(203:Int))) (by decide:(203:Int) ≠ 0),andM_no (r:=(F,(203:Int))) (by decide:(203:Int) ≠ 0),rens_down hd,andM_ok (r:=(F,(0:Int))) rfl,rename_down hd]
    · unfold ifThM rensM
      rw [if_neg hd]
      by_cases ht:thereM F (oldN (i + 1))=true
      · rw [if_pos ht,if_pos ht,and_assoc,and_assoc]
        congr 1
        exact funext fun G=>seq_rens n t i G
      · rw [if_neg ht,if_neg ht,andM_ok (r:=(F,(0:Int))) rfl]
        exact seq_rens n t i F
theorem seq_rems:∀ (i:Nat) (F:Fs),andM (seqM (remsL i) F) syncDirM=andM (remsM i F) syncDirM
  | 0,F=>rfl
  | i + 1,F=>by
    show andM (andM (remS (8 - i) F) (seqM (remsL i))) _=_
    unfold remS
    by_cases hd:F.down=true
    · rw [ifTh_down hd,andM_no (r:=(F,(203:Int))) (by decide:(203:Int) ≠ 0),andM_no (r:=(F,(203:Int))) (by decide:(203:Int) ≠ 0),rems_down hd,andM_ok (r:=(F,(0:Int))) rfl,syncDir_down hd]
    · unfold ifThM remsM
      rw [if_neg hd]
      by_cases ht:thereM F (oldN (8 - i))=true
      · rw [if_pos ht,if_pos ht,and_assoc,and_assoc]
        congr 1
        exact funext fun G=>seq_rems i G
      · rw [if_neg ht,if_neg ht,andM_ok (r:=(F,(0:Int))) rfl]
        exact seq_rems i F
def keptL (t:ByteArray) (keep:Nat):List (Fs → Fs × Int):=(fun G=>writtenM G tmpO t) :: rensL (keep - 1) ++ [fun G=>renameM G tmpO (oldN 1)]
def turnM (keep:Nat) (F:Fs):Fs × Int:=if keep=0 then (F,0) else if (readM F liveN).2=0 then seqM (keptL (readM F liveN).1 keep) F else if (readM F liveN).2=201 then (F,0) else (F,(readM F liveN).2)
theorem seq_kept {F:Fs} (keep:Nat) (h:(readM F liveN).2=0):seqM (keptL (readM F liveN).1 keep) F=keptM F keep:=by
  unfold keptL keptM
  rw [if_pos h]
  show andM (writtenM F tmpO _) (seqM (rensL (keep - 1) ++ [fun G=>renameM G tmpO (oldN 1)]))=_
  congr 1
  refine funext fun G=>?_
  rw [seq_app,← seq_rens]
  congr 1
  exact funext fun G=>seq_one _ G
theorem read_err (F:Fs):(readM F liveN).2=hasM F liveN:=by
  unfold readM
  by_cases h:hasM F liveN=0
  · rw [if_pos h,h]
  · rw [if_neg h]
theorem read_cases (F:Fs):((readM F liveN).2=203∧F.down=true) ∨ ((readM F liveN).2=201∧F.down=false) ∨ ((readM F liveN).2=0∧F.down=false):=by
  rw [read_err]
  unfold hasM
  rcases hd:F.down with _ | _
  · rw [if_neg (by simp),if_pos named_live]
    by_cases hf:findM F.dir liveN < 0
    · rw [if_pos hf]; exact Or.inr (Or.inl ⟨rfl,rfl⟩)
    · rw [if_neg hf]; exact Or.inr (Or.inr ⟨rfl,rfl⟩)
  · rw [if_pos rfl]; exact Or.inl ⟨rfl,rfl⟩
def dropM (keep:Nat) (F:Fs):Fs × Int:=seqM (remsL (8 - keep)) F
def runL (t:ByteArray) (keep:Nat):List (Fs → Fs × Int):=[fun G=>writtenM G tmpS t,turnM keep,fun G=>renameM G tmpS liveN,dropM keep,syncDirM]
theorem turn_eq (keep:Nat) (G:Fs) (f:Fs → Fs × Int):andM (turnM keep G) (fun G=>andM (renameM G tmpS liveN) f)=andM (if decide (0 < keep) && thereM G liveN then keptM G keep else (G,0)) (fun G=>andM (renameM G tmpS liveN) f):=by
  unfold turnM
  by_cases hk:keep=0
  · subst hk
    rw [if_pos rfl]
    rfl
  · rw [if_neg hk]
    have hk':decide (0 < keep)=true:=by simp; omega
    rw [hk',Bool.true_and]
    rcases read_cases G with ⟨h,hd⟩ | ⟨h,hd⟩ | ⟨h,hd⟩
    · rw [h,if_neg (by decide),if_neg (by decide),there_down hd]
      show andM (G,203) _=andM (G,0) _
      rw [andM_no (r:=(G,(203:Int))) (by decide:(203:Int) ≠ 0),andM_ok (r:=(G,(0:Int))) rfl,rename_down hd,andM_no (r:=(G,(203:Int))) (by decide:(203:Int) ≠ 0)]
    · have ht:thereM G liveN=false:=by unfold thereM; rw [h]; rfl
      rw [h,if_neg (by decide),if_pos rfl,ht]
      rfl
    · have ht:thereM G liveN=true:=by unfold thereM; rw [h]; rfl
      rw [if_pos h,seq_kept keep h,ht]
      rfl
theorem seq_run (t:ByteArray) (keep:Nat) (F:Fs):seqM (runL t keep) F=stepsM F t keep:=by
  unfold runL stepsM
  show andM (writtenM F tmpS t) (fun G=>andM (turnM keep G) (fun G=>andM (renameM G tmpS liveN) (fun G=>andM (dropM keep G) (fun G=>andM (syncDirM G) (fun G=>(G,0))))))=_
  congr 1
  refine funext fun G=>?_
  rw [turn_eq]
  congr 1
  refine funext fun G=>?_
  congr 1
  refine funext fun G=>?_
  unfold dropM
  rw [← seq_rems]
  congr 1
  exact funext fun G=>and_end _
theorem ifTh_clean (F:Fs) (n:ByteArray):(ifThM n (fun G=>removeM G n) F).1=cleanM F n:=by
  unfold ifThM cleanM
  by_cases hd:F.down=true
  · rw [if_pos hd,there_down hd]; rfl
  · rw [if_neg hd]; split <;> rfl
/-! Tidy. -/
def tidyL (l:List ByteArray):List (Fs → Fs × Int):=(l.filter isTmp).map fun n G=>removeM G n
theorem seq_tidys:∀ (l:List ByteArray) (n:Nat) (F:Fs),tidysM l n F=((seqM (tidyL l) F).1,(if (seqM (tidyL l) F).2=0 then ((n + (l.filter isTmp).length:Nat):Int) else 0),(seqM (tidyL l) F).2)
  | [],n,F=>by
    show (F,(n:Int),(0:Int))=(F,(if (0:Int)=0 then ((n + 0:Nat):Int) else 0),(0:Int))
    rw [if_pos rfl]; rfl
  | x :: l,n,F=>by
    unfold tidysM
    by_cases hx:isTmp x=true
    · have e1:tidyL (x :: l)=(fun G=>removeM G x) :: tidyL l:=by unfold tidyL; rw [List.filter_cons_of_pos hx]; rfl
      have e2:((x :: l).filter isTmp).length=(l.filter isTmp).length + 1:=by rw [List.filter_cons_of_pos hx]; rfl
      have e3:seqM (tidyL (x :: l)) F=andM (removeM F x) (seqM (tidyL l)):=by rw [e1]; rfl
      rw [if_pos hx,e3,e2]
      simp only
      by_cases h0:(removeM F x).2=0
      · rw [if_pos h0,seq_tidys l (n + 1),andM_ok h0]
        have:n + 1 + (l.filter isTmp).length=n + ((l.filter isTmp).length + 1):=by omega
        rw [this]
      · rw [if_neg h0,andM_no h0,if_neg h0]
    · have e1:tidyL (x :: l)=tidyL l:=by unfold tidyL; rw [List.filter_cons_of_neg hx]
      have e2:((x :: l).filter isTmp)=(l.filter isTmp):=by rw [List.filter_cons_of_neg hx]
      rw [if_neg hx,e1,e2]
      exact seq_tidys l n F
def tidyAll (l:List ByteArray):List (Fs → Fs × Int):=if 0 < (l.filter isTmp).length then tidyL l ++ [syncDirM] else tidyL l
theorem tidy_eq (F:Fs):tidyM F=if F.down then (F,0,203) else ((seqM (tidyAll (F.dir.map (·.1))) F).1,(if (seqM (tidyAll (F.dir.map (·.1))) F).2=0 then (((F.dir.map (·.1)).filter isTmp).length:Int) else 0),(seqM (tidyAll (F.dir.map (·.1))) F).2):=by
  unfold tidyM listM
  by_cases hd:F.down=true
  · rw [if_pos hd,if_pos hd]; rfl
  · rw [if_neg hd,if_neg hd]
    simp only
    rw [if_pos trivial,seq_tidys]
    simp only
    unfold tidyAll
    generalize hL:F.dir.map (·.1)=L
    by_cases hc:0 < (L.filter isTmp).length
    · rw [if_pos hc,seq_app]
      by_cases h0:(seqM (tidyL L) F).2=0
      · rw [if_pos h0,if_pos h0,if_pos (by omega),andM_ok h0,seq_one]
        by_cases h1:(syncDirM (seqM (tidyL L) F).1).2=0
        · rw [if_pos h1,if_pos h1,h1]; simp
        · rw [if_neg h1,if_neg h1]
      · rw [if_neg h0,andM_no h0,if_neg h0,if_neg h0]
    · rw [if_neg hc]
      by_cases h0:(seqM (tidyL L) F).2=0
      · rw [if_pos h0,if_pos h0,if_neg (by omega)]
        have:(L.filter isTmp).length=0:=by omega
        rw [this]; simp
      · rw [if_neg h0,if_neg h0,if_neg h0]
theorem step_up {F:Fs} (h:(stepM F).2.1=0) (hd:F.down=false):(stepM F).1.down=false:=by rw [stepM_zero h]; exact hd
theorem remove_up {F:Fs} {n:ByteArray} (h:(removeM F n).2=0):(removeM F n).1.down=false:=by
  unfold removeM at h ⊢
  by_cases h0:hasM F n=0
  · rw [if_pos h0] at h ⊢
    simp only at h ⊢
    by_cases h1:(stepM F).2.1=0
    · rw [if_pos h1]
      exact step_up h1 (has_zero.1 h0).1
    · rw [if_neg h1] at h; exact absurd h h1
  · rw [if_neg h0] at h; exact absurd h h0
theorem syncDir_up {F:Fs} (h:(syncDirM F).2=0):(syncDirM F).1.down=false:=by
  unfold syncDirM at h ⊢
  by_cases hd:F.down=true
  · rw [if_pos hd] at h; exact absurd (show (203:Int)=0 from h) (by decide)
  · rw [if_neg hd] at h ⊢
    simp only at h ⊢
    by_cases h1:(stepM F).2.1=0
    · rw [if_pos h1]
      exact step_up h1 (by simpa using hd)
    · rw [if_neg h1] at h; exact absurd h h1
theorem seq_up:∀ (l:List (Fs → Fs × Int)) (F:Fs),(∀ m ∈ l,∀ G,(m G).2=0 → (m G).1.down=false) → F.down=false → (seqM l F).2=0 → (seqM l F).1.down=false
  | [],F,_,hd,_=>hd
  | m :: l,F,hm,hd,h=>by
    have e:seqM (m :: l) F=andM (m F) (seqM l):=rfl
    rw [e] at h ⊢
    by_cases h0:(m F).2=0
    · rw [andM_ok h0] at h ⊢
      exact seq_up l _ (fun k hk=>hm k (List.mem_cons_of_mem _ hk)) (hm m (List.mem_cons_self ..) F h0) h
    · rw [andM_no h0] at h; exact absurd h h0
theorem tidy_up {F:Fs} (h:(tidyM F).2.2=0):(tidyM F).1.down=false:=by
  rw [tidy_eq] at h ⊢
  by_cases hd:F.down=true
  · rw [if_pos hd] at h; exact absurd (show (203:Int)=0 from h) (by decide)
  · rw [if_neg hd] at h ⊢
    simp only at h ⊢
    refine seq_up _ _ (fun m hm G hG=>?_) (by simpa using hd) h
    have hT:∀ m ∈ tidyL (F.dir.map (·.1)),∀ G,(m G).2=0 → (m G).1.down=false:=fun m hm G hG=>by
      unfold tidyL at hm
      obtain ⟨n,_,rfl⟩:=List.mem_map.1 hm
      exact remove_up hG
    unfold tidyAll at hm
    split at hm
    · rcases List.mem_append.1 hm with hm | hm
      · exact hT m hm G hG
      · rw [List.mem_singleton] at hm; subst hm; exact syncDir_up hG
    · exact hT m hm G hG
end Go.Proofs.YtbgbmfmgdgalbaaGreatDoor
namespace Go.Proofs.YtbgbmfmgdgalbaaGreatDoor
open Go.RowKit
set_option linter.unusedVariables false
set_option linter.unusedSimpArgs false
theorem dig_ext (N:Nat) (h:N ≤ 9):ByteArray.extract ({ data:=#[48,49,50,51,52,53,54,55,56,57,97,98,99,100,101,102,103,104,105,106,107,108,109,110,111,112,113,114,115,116,117,118,119,120,121,122] }:ByteArray) N (N + 1)=⟨#[UInt8.ofNat (48 + N)]⟩:=by
  have:∀ x:Fin 10,ByteArray.extract ({ data:=#[48,49,50,51,52,53,54,55,56,57,97,98,99,100,101,102,103,104,105,106,107,108,109,110,111,112,113,114,115,116,117,118,119,120,121,122] }:ByteArray) x.val (x.val + 1)=⟨#[UInt8.ofNat (48 + x.val)]⟩:=by decide
  exact this ⟨N,by omega⟩
set_option maxHeartbeats 1000000 in
theorem small_any (N:Nat) (h2:N ≤ 9) (d:ByteArray) (hd:d=⟨#[UInt8.ofNat (48 + N)]⟩) (w:World):Calls Tryz.prog 179 #[.int .i64 (N:Int)] w fun e w'=>e=.returned (.string d)∧w'=w:=by
  have hz0:(N:Int) < 10:=by omega
  have hz1:(0:Int) ≤ (N:Int):=by omega
  have hiw:IntKind.i64.wrap ((N:Int) + 1)=(N:Int) + 1:=by rw [IntKind.wrap_i64] <;> omega
  have hz2:(N:Int) + 1 ≤ 36:=by omega
  have HE:Hid (ByteArray.extract ({ data:=#[48,49,50,51,52,53,54,55,56,57,97,98,99,100,101,102,103,104,105,106,107,108,109,110,111,112,113,114,115,116,117,118,119,120,121,122] }:ByteArray) N (N + 1)=d):=by rw [hd]; exact dig_ext N h2
  have hsz:({ data:=#[48,49,50,51,52,53,54,55,56,57,97,98,99,100,101,102,103,104,105,106,107,108,109,110,111,112,113,114,115,116,117,118,119,120,121,122] }:ByteArray).size=36:=rfl
  clear h2 hd
  go_enter Tryz.func179,Tryz.ntmps179
  go_wp2
  go_returns
  exact ⟨by rw [← HE.out]; rfl,rfl⟩
theorem fmt_small (N:Nat) (h2:N ≤ 9) (d:ByteArray) (hd:d=⟨#[UInt8.ofNat (48 + N)]⟩) (w:World):Calls Tryz.prog 166 #[.int .i64 (N:Int),.int .i64 10] w fun e w'=>e=.returned (.string d)∧w'=w:=by
  have hz0:(0:Int) ≤ (N:Int):=by omega
  have hz1:(N:Int) < 100:=by omega
  have HQ:Hid _:=small_any N h2 d hd
  clear h2 hd
  go_enter Tryz.func166,Tryz.ntmps166
  go_wp2_with fail
  refine (show Calls _ _ _ _ _ from HQ.out _).mono ?_
  rintro e w1 ⟨rfl,rfl⟩
  go_wp2
  go_returns
  exact ⟨rfl,rfl⟩
theorem itoa_small (N:Nat) (h2:N ≤ 9) (d:ByteArray) (hd:d=⟨#[UInt8.ofNat (48 + N)]⟩) (w:World):Calls Tryz.prog 151 #[.int .i64 (N:Int)] w fun e w'=>e=.returned (.string d)∧w'=w:=by
  have HQ:Hid _:=fmt_small N h2 d hd
  clear h2 hd
  go_enter Tryz.func151,Tryz.ntmps151
  go_wp2_with fail
  refine (show Calls _ _ _ _ _ from HQ.out _).mono ?_
  rintro e w1 ⟨rfl,rfl⟩
  go_wp2
  go_returns
  exact ⟨rfl,rfl⟩
theorem itoa_small2 (N:Nat) (h2:N ≤ 9) (d:ByteArray) (hd:d=⟨#[UInt8.ofNat (48 + N)]⟩) (w:World):Calls Tryz.prog 113 #[.int .i64 (N:Int)] w fun e w'=>e=.returned (.string d)∧w'=w:=by
  have HQ:Hid _:=itoa_small N h2 d hd
  clear h2 hd
  go_enter Tryz.func113,Tryz.ntmps113
  go_wp2_with fail
  refine (show Calls _ _ _ _ _ from HQ.out _).mono ?_
  rintro e w1 ⟨rfl,rfl⟩
  go_wp2
  go_returns
  exact ⟨rfl,rfl⟩
theorem pdigits_small (N:Nat) (h2:N ≤ 9) (d:ByteArray) (hd:d=⟨#[UInt8.ofNat (48 + N)]⟩) (w:World):Calls Tryz.prog 69 #[.int .i64 (N:Int)] w fun e w'=>e=.returned (.string d)∧w'=w:=by
  have HQ:Hid _:=itoa_small2 N h2 d hd
  clear h2 hd
  go_enter Tryz.func69,Tryz.ntmps69
  go_wp2_with fail
  refine (show Calls _ _ _ _ _ from HQ.out _).mono ?_
  rintro e w1 ⟨rfl,rfl⟩
  go_wp2
  go_returns
  exact ⟨rfl,rfl⟩
end Go.Proofs.YtbgbmfmgdgalbaaGreatDoor
namespace Go.Proofs.YtbgbmfmgdgalbaaGreatDoor
open Go.RowKit Go.Maps
set_option linter.unusedVariables false
set_option linter.unusedSimpArgs false
abbrev FnV:=Nat × Array Value × Array Value
def fnV (x:FnV):Value:=.func (.func x.1) x.2.1 x.2.2
def stpE:ET FnV:=⟨fun x=>[fnV x],1,8,160,124,.nilFunc⟩
theorem stpOk:ETok stpE:=⟨Tryz.underlying124,by kernel_rfl,rfl,by decide,fun _=>rfl,fun x u hu=>by simp [stpE] at hu; subst hu; rfl⟩
def Cap (K:Nat → Prop) (B W:World) (g:Nat) (X:Gh) (F:Fs):Prop:=∀ k,K k → (∃ r,B.heap[k]?=some r∧W.heap[k]?=some r)∧¬ Own g F X k
theorem Cap.bt {K:Nat → Prop} {B W W':World} {g:Nat} {X X':Gh} {F F':Fs} (h:Cap K B W g X F) (b:Bt W g X F W' X' F'):Cap K B W' g X' F':=fun k hk=>by
  obtain ⟨⟨r,h1,h2⟩,h3⟩:=h k hk
  refine ⟨⟨r,h1,b.md.row h2 h3⟩,fun ho=>?_⟩
  rcases b.own k ho with q | q
  · exact h3 q
  · have:=row_lt h2; omega
theorem Cap.bel {K:Nat → Prop} {B W W':World} {g:Nat} {X:Gh} {F:Fs} (h:Cap K B W g X F) (hb:Below W.heap.size W W'):Cap K B W' g X F:=fun k hk=>by
  obtain ⟨⟨r,h1,h2⟩,h3⟩:=h k hk
  exact ⟨⟨r,h1,keep_row h2 hb⟩,h3⟩
theorem Cap.row {K:Nat → Prop} {B W:World} {g k:Nat} {X:Gh} {F:Fs} {o:Obj} (h:Cap K B W g X F) (hk:K k) (hr:B.heap[k]?=some o):W.heap[k]?=some o:=by
  obtain ⟨⟨r,h1,h2⟩,_⟩:=h k hk
  rw [h1] at hr; rw [h2,hr]
abbrev Sp:=FnV × (Fs → Fs × Int) × Nat
structure StepV (B:World) (K:Nat → Prop) (g:Nat) (s:Sp):Prop where
  ent:∀ args w,(callFunc s.1.1 args).run Tryz.prog w=.ok (.enter s.1.1 args) w
  inv:∀ F i,Inv F i → Inv (s.2.1 F).1 (i + s.2.2)
  run:∀ (w0 W:World) (X:Gh) (F:Fs) (i:Nat),St w0 W g X F i → Inv F i → i + s.2.2 + 1 ≤ 3298534883000 → Cap K B W g X F → Calls Tryz.prog s.1.1 (s.1.2.1 ++ s.1.2.2) W (CalP w0 W g X F (s.2.1 F).1 (i + s.2.2) (.int .i64 (s.2.1 F).2))
theorem StepV.more {B B':World} {K K':Nat → Prop} {g:Nat} {s:Sp} (h:StepV B K g s) (hK:∀ k,K k → K' k∧B'.heap[k]?=B.heap[k]?):StepV B' K' g s:=⟨h.ent,h.inv,fun w0 W X F i a b c d=>h.run w0 W X F i a b c (fun k hk=>by
  obtain ⟨h1,h2⟩:=hK k hk
  obtain ⟨⟨r,h3,h4⟩,h5⟩:=d k h1
  exact ⟨⟨r,by rw [← h2]; exact h3,h4⟩,h5⟩)⟩
def msL (L:List Sp):List (Fs → Fs × Int):=L.map (·.2.1)
def tot (L:List Sp):Nat:=(L.map (·.2.2)).sum
theorem tot_app (A B:List Sp):tot (A ++ B)=tot A + tot B:=by unfold tot; rw [List.map_append,List.sum_append]
theorem tot_one (s:Sp):tot [s]=s.2.2:=by unfold tot; simp
theorem tot_take (L:List Sp) (j:Nat) (h:j < L.length):tot (L.take (j + 1))=tot (L.take j) + (L[j]).2.2:=by
  rw [List.take_add_one,List.getElem?_eq_getElem h,tot_app]
  show _ + tot [L[j]]=_
  rw [tot_one]
theorem tot_le (L:List Sp) (j:Nat):tot (L.take j) ≤ tot L:=by
  have:tot L=tot (L.take j) + tot (L.drop j):=by rw [← tot_app,List.take_append_drop]
  omega
theorem msL_drop (L:List Sp) (j:Nat) (h:j < L.length):msL (L.drop j)=(L[j]).2.1 :: msL (L.drop (j + 1)):=by
  rw [List.drop_eq_getElem_cons h]; rfl
theorem stp_at (L:List Sp) (j:Nat) (h:j < L.length) (h':j < (L.map (·.1)).length):(L.map (·.1))[j]=(L[j]).1:=by rw [List.getElem_map]
set_option maxHeartbeats 4000000 in
set_option maxRecDepth 400000 in
theorem inOrder_any (L:List Sp) (B:World) (K:Nat → Prop) (g:Nat) (hL:∀ s ∈ L,StepV B K g s) (hn:L.length ≤ 1048576) (w0 W:World) (X:Gh) (F:Fs) (i:Nat) (h:St w0 W g X F i) (hI:Inv F i) (hi:i + tot L + 1 ≤ 3298534883000) (hC:Cap K B W g X F) (base:Nat) (v:Value) (hv:W.ownsRow base 160 1 v L.length (stpE.fl (L.map (·.1)))) (hvo:∀ k,v.ownBlock=some k → ¬ Own g F X k) :
    Calls Tryz.prog 62 #[v] W (CalP w0 W g X F (seqM (msL L) F).1 (i + tot L) (.int .i64 (seqM (msL L) F).2)):=by
  obtain ⟨P,c,rfl⟩:=own_form hv
  have HV:Hid (W.ownsRow base 160 1 (.slice P L.length c) L.length (stpE.fl (L.map (·.1)))):=hv
  have HVO:Hid _:=hvo
  have HL:Hid _:=hL
  have HC:Hid (Cap K B W g X F):=hC
  have HS:Hid _:=h
  have HI:Hid _:=hI
  have HB:Hid (i + tot L + 1 ≤ 3298534883000):=hi
  clear hv hvo hL hC h hI hi
  go_enter Tryz.func62,Tryz.ntmps62
  go_wp2
  go_loopw [8] (fun ci wr=>∃ j:Nat,j ≤ L.length∧ci=.int .i64 (j:Int)∧∃ X' F',St w0 wr g X' F' (i + tot (L.take j))∧Inv F' (i + tot (L.take j))∧Bt W g X F wr X' F'∧seqM (msL L) F=seqM (msL (L.drop j)) F') (fun ci _=>L.length - (intOf ci).toNat)
  case atStart=>exact ⟨0,by omega,rfl,X,F,HS.out,HI.out,Bt.refl _ _ _ _,rfl⟩
  case round =>
    obtain ⟨j,hj,rfl,X',F',hs,hI',hb,he⟩:=hrel
    have HSJ:Hid _:=hs
    have HIJ:Hid _:=hI'
    have HBJ:Hid _:=hb
    have HEJ:Hid _:=he
    clear hs hI' hb he
    by_cases hlt:j < L.length
    · obtain ⟨r,o,c',hq,hcell⟩:=(KR.own (E:=stpE) (own_to HV.out (fun k hk=>HBJ.out.md.oth k (own_lt HV.out hk) (HVO.out k hk))) (by simp)).cell stpOk (j:=j) (by simpa using hlt)
      injection hq with hq1 hq3 hq2
      subst hq1
      have c0:wr.cell? ⟨r,o + j * 1,none⟩=some (fnV (L[j]).1):=by
        have:=hcell 0 (fnV (L.map (·.1))[j]) rfl
        rw [stp_at L j hlt] at this
        exact this
      rw [Nat.mul_one] at c0
      have hz0:(0:Int) ≤ (j:Int):=by omega
      have hz1:(j:Int) < (L.length:Int):=by omega
      have hiw:IntKind.i64.wrap ((j:Int) + 1)=(j:Int) + 1:=by rw [IntKind.wrap_i64] <;> omega
      have hsv:=HL.out L[j] (List.getElem_mem hlt)
      have htk:=tot_take L j hlt
      have hle:=tot_le L (j + 1)
      have hms:=msL_drop L j hlt
      have hbd:=HB.out
      have HQ:Hid (Calls Tryz.prog (L[j]).1.1 ((L[j]).1.2.1 ++ (L[j]).1.2.2) wr (CalP w0 wr g X' F' ((L[j]).2.1 F').1 (i + tot (L.take j) + (L[j]).2.2) (.int .i64 ((L[j]).2.1 F').2))):=hsv.run w0 wr X' F' _ HSJ.out HIJ.out (by omega) (Cap.bt HC.out HBJ.out)
      have HNI:Hid (Inv ((L[j]).2.1 F').1 (i + tot (L.take (j + 1)))):=by
        have:=hsv.inv F' _ HIJ.out
        rw [Nat.add_assoc,← htk] at this
        exact this
      have heF:=hsv.ent
      have HTK:Hid (i + tot (L.take j) + (L[j]).2.2=i + tot (L.take (j + 1))):=by show _=_; omega
      have HLE:Hid (tot (L.take (j + 1)) ≤ tot L):=hle
      have HMS:Hid (msL (L.drop j)=(L[j]).2.1 :: msL (L.drop (j + 1))):=hms
      clear hsv hms hcell hq3 hq2 htk hle hbd
      generalize L[j]=s at *
      obtain ⟨⟨D,pre,free⟩,m,n⟩:=s
      unfold fnV at c0
      simp only at c0 heF HQ HNI HTK HMS
      obtain ⟨F2,e2,hm⟩:∃ F2 e2,m F'=(F2,e2):=⟨_,_,rfl⟩
      rw [hm] at HQ HNI
      have HM:Hid (m F'=(F2,e2)):=hm
      simp only at HQ HNI
      clear hm
      go_wp2_with fail
      refine (show Calls _ _ _ _ _ from HQ.out).mono ?_
      rintro e w1 ⟨rfl,X2,hs2,hb2⟩
      have HS2:Hid (St w0 w1 g X2 F2 (i + tot (L.take (j + 1)))):=by have:=hs2; rw [HTK.out] at this; exact this
      have HB2:Hid (Bt W g X F w1 X2 F2):=HBJ.out.trans hb2
      clear hs2 hb2 c0
      by_cases h0:e2=0
      · subst h0
        have HE2:Hid (seqM (msL L) F=seqM (msL (L.drop (j + 1))) F2):=by
          show _=_
          rw [HEJ.out,HMS.out]
          show andM (m F') _=_
          rw [HM.out,andM_ok rfl]
        clear HQ HM
        go_wp2
        go_roundw
        case rel=>exact ⟨j + 1,hlt,by first | rfl | congr 1,X2,F2,HS2.out,HNI.out,HB2.out,HE2.out⟩
        case measure=>simp [intOf]; omega
      · have HE2:Hid (seqM (msL L) F=(F2,e2)):=by
          show _=_
          rw [HEJ.out,HMS.out]
          show andM (m F') _=_
          rw [HM.out,andM_no h0]
        have heb:(e2 == 0)=false:=beq_eq_false_iff_ne.mpr h0
        have hnb:(e2 != 0)=true:=by simp [bne,heb]
        clear HQ HM
        go_wp2
        go_returns
        rw [HE2.out]
        exact ⟨rfl,X2,HS2.out.more24 (by have:=HLE.out; omega),HB2.out⟩
    · have hjl:j=L.length:=by omega
      subst hjl
      have HE2:Hid (seqM (msL L) F=(F',0)):=by
        show _=_
        rw [HEJ.out,List.drop_length]; rfl
      go_wp2
      go_returns
      rw [HE2.out]
      exact ⟨rfl,X',by have:=HSJ.out; rw [List.take_length] at this; exact this,HBJ.out⟩
end Go.Proofs.YtbgbmfmgdgalbaaGreatDoor
namespace Go.Proofs.YtbgbmfmgdgalbaaGreatDoor
open Go.RowKit Go.Maps
set_option linter.unusedVariables false
set_option linter.unusedSimpArgs false
set_option maxHeartbeats 1000000 in
theorem polder_any (i:Nat) (h2:i ≤ 9) (w:World):Calls Tryz.prog 32 #[.int .i64 (i:Int)] w fun e w'=>e=.returned (.string (oldN i))∧w'=w:=by
  obtain ⟨dg,hdg⟩:∃ dg:ByteArray,dg=⟨#[UInt8.ofNat (48 + i)]⟩:=⟨_,rfl⟩
  have HQ:Hid _:=pdigits_small i h2 dg hdg w
  have HO:Hid ((⟨#[100,117,109,112,46,114,100,98,46]⟩:ByteArray) ++ ⟨#[UInt8.ofNat (48 + i)]⟩=oldN i):=rfl
  rw [← hdg] at HO
  have hds:dg.size=1:=by rw [hdg]; rfl
  have hsz:(⟨#[100,117,109,112,46,114,100,98,46]⟩:ByteArray).size + dg.size ≤ 9223372036854775807:=by rw [hds]; decide
  clear h2 hdg
  go_enter Tryz.func32,Tryz.ntmps32
  go_wp2_with fail
  refine (show Calls _ _ _ _ _ from HQ.out).mono ?_
  rintro e w1 ⟨rfl,rfl⟩
  clear HQ
  go_wp2
  go_returns
  exact ⟨by rw [← HO.out]; rfl,rfl⟩
def rdT (F:Fs) (n:ByteArray):Value:=if (readM F n).2=0 then .tuple #[.string (readM F n).1,.bool true,.int .i64 0] else if (readM F n).2=201 then .tuple #[.string ⟨#[]⟩,.bool false,.int .i64 0] else .tuple #[.string ⟨#[]⟩,.bool false,.int .i64 (readM F n).2]
set_option maxHeartbeats 2000000 in
theorem pread_any {w0 w:World} {g i:Nat} {X:Gh} {F:Fs} (h:St w0 w g X F i) (n:ByteArray) (hn:n.size ≤ 140737488355328):Calls Tryz.prog 31 #[ptr (some g),.string n] w fun e w'=>e=.returned (rdT F n)∧Below w.heap.size w w':=by
  have HQ:Hid _:=Read_any g X F n hn w h.fs
  obtain ⟨t,e1,hr⟩:∃ t e1,readM F n=(t,e1):=⟨_,_,rfl⟩
  unfold rdT
  rw [hr] at HQ ⊢
  simp only at HQ ⊢
  clear hr h hn
  unfold ptr at HQ ⊢
  by_cases h0:e1=0
  · subst h0
    rw [if_pos rfl]
    go_enter Tryz.func31,Tryz.ntmps31
    go_wp2_with fail
    refine (show Calls _ _ _ _ _ from HQ.out).mono ?_
    rintro e w1 ⟨rfl,hb⟩
    have HB:Hid _:=hb
    clear hb HQ
    go_wp2
    go_returns
    exact ⟨rfl,HB.out⟩
  · rw [if_neg h0]
    have heb:(e1 == 0)=false:=beq_eq_false_iff_ne.mpr h0
    by_cases h1:e1=201
    · subst h1
      rw [if_pos rfl]
      go_enter Tryz.func31,Tryz.ntmps31
      go_wp2_with fail
      refine (show Calls _ _ _ _ _ from HQ.out).mono ?_
      rintro e w1 ⟨rfl,hb⟩
      have HB:Hid _:=hb
      clear hb HQ
      go_wp2
      go_returns
      exact ⟨rfl,HB.out⟩
    · rw [if_neg h1]
      have heb1:(e1 == 201)=false:=beq_eq_false_iff_ne.mpr h1
      go_enter Tryz.func31,Tryz.ntmps31
      go_wp2_with fail
      refine (show Calls _ _ _ _ _ from HQ.out).mono ?_
      rintro e w1 ⟨rfl,hb⟩
      have HB:Hid _:=hb
      clear hb HQ
      go_wp2
      go_returns
      exact ⟨rfl,HB.out⟩
set_option maxHeartbeats 1000000 in
set_option maxRecDepth 100000 in
theorem pindex_any (v:Value) (l:List ByteArray) (n:ByteArray) (hl:l.length ≤ 1048576) (w:World) (h:KR psE w v l) :
    Calls Tryz.prog 162 #[v,.string n] w fun e w'=>Below w.heap.size w w'∧∃ r:Int,e=.returned (.int .i64 r)∧(0 ≤ r ↔ n ∈ l):=by
  obtain ⟨P,c,rfl⟩:=h.form
  have H:Hid (KR psE w (.slice P l.length c) l):=h
  clear h
  go_enter Tryz.func162,Tryz.ntmps162
  go_wp2
  go_loopw [8] (fun ci wr=>∃ i:Nat,i ≤ l.length∧ci=.int .i64 (i:Int)∧Below w.heap.size w wr∧∀ t (h:t < l.length),t < i → n ≠ l[t]) (fun ci _=>l.length - (intOf ci).toNat)
  case atStart=>exact ⟨0,by omega,rfl,Below.refl _ _,fun t _ h=>by omega⟩
  case round =>
    obtain ⟨i,hi,rfl,hb,hall⟩:=hrel
    have HBR:Hid (Below w.heap.size w wr):=hb
    have HALL:Hid _:=hall
    by_cases hlt:i < l.length
    · obtain ⟨E,o,c',he,hcell⟩:=(H.out.on hb).cell psOk hlt
      injection he with he1 _ he2
      subst he1
      have x0:wr.cell? ⟨E,o + i * 1,none⟩=some (.string l[i]):=hcell 0 _ rfl
      rw [Nat.mul_one] at x0
      have hz0:(0:Int) ≤ (i:Int):=by omega
      have hz1:(i:Int) < (l.length:Int):=by omega
      have hiw:IntKind.i64.wrap ((i:Int) + 1)=(i:Int) + 1:=by rw [IntKind.wrap_i64] <;> omega
      have HMM:Hid (l[i] ∈ l):=List.getElem_mem hlt
      clear hb hall hcell he2
      by_cases heq:n=l[i]
      · have hs:(n.toList == l[i].toList)=true:=str_same (by rw [← heq])
        have HE:Hid (n=l[i]):=heq
        clear heq
        obtain ⟨y,hy⟩:∃ y,l[i]=y:=⟨_,rfl⟩
        rw [hy] at x0 hs HE HMM
        clear hy
        go_wp2
        go_returns
        exact ⟨HBR.out,_,rfl,fun _=>by rw [HE.out]; exact HMM.out,fun _=>by omega⟩
      · have hs:(n.toList == l[i].toList)=false:=str_other (fun e=>heq (by cases n with | mk a=>cases hq:l[i] with | mk b=>rw [hq] at e; exact congrArg _ (Array.toList_inj.1 e)))
        have HNE:Hid (n ≠ l[i]):=heq
        clear heq
        have HNN:Hid (∀ t (h:t < l.length),t < i + 1 → n ≠ l[t]):=fun t ht hti=>by
          rcases Nat.lt_or_eq_of_le (Nat.le_of_lt_succ hti) with h1 | h1
          · exact HALL.out t ht h1
          · subst h1; exact HNE.out
        clear HNE HMM
        obtain ⟨y,hy⟩:∃ y,l[i]=y:=⟨_,rfl⟩
        rw [hy] at x0 hs
        clear hy
        go_wp2
        go_roundw
        case rel=>exact ⟨i + 1,hlt,by first | rfl | congr 1,HBR.out,HNN.out⟩
        case measure=>simp [intOf]; omega
    · have he:i=l.length:=by omega
      subst he
      clear hb hall
      go_wp2
      go_returns
      exact ⟨HBR.out,_,rfl,fun h=>by omega,fun h=>by
        obtain ⟨t,ht,e⟩:=List.getElem_of_mem h
        exact absurd e.symm (HALL.out t ht ht)⟩
def memB (l:List ByteArray) (n:ByteArray):Bool:=l.any fun m=>decide (m=n)
theorem memB_iff {l:List ByteArray} {n:ByteArray}:memB l n=true ↔ n ∈ l:=by
  unfold memB
  rw [List.any_eq_true]
  constructor
  · rintro ⟨m,hm,h⟩
    have:m=n:=of_decide_eq_true h
    rw [← this]; exact hm
  · intro h; exact ⟨n,h,decide_eq_true rfl⟩
set_option maxHeartbeats 1000000 in
theorem pcontains_any (v:Value) (l:List ByteArray) (n:ByteArray) (hl:l.length ≤ 1048576) (w:World) (h:KR psE w v l) :
    Calls Tryz.prog 139 #[v,.string n] w fun e w'=>Below w.heap.size w w'∧e=.returned (.bool (memB l n)):=by
  have HQ:Hid _:=pindex_any v l n hl w h
  clear h hl
  go_enter Tryz.func139,Tryz.ntmps139
  go_wp2_with fail
  refine (show Calls _ _ _ _ _ from HQ.out).mono ?_
  rintro e w1 ⟨hb,r,rfl,hr⟩
  have HB:Hid _:=hb
  have HR:Hid _:=hr
  clear hb hr HQ
  by_cases h0:0 ≤ r
  · have HD:Hid (memB l n=true):=memB_iff.2 (HR.out.1 h0)
    go_wp2
    go_returns
    exact ⟨HB.out,by rw [HD.out]; rfl⟩
  · have HD:Hid (memB l n=false):=by
      show _=_
      rcases hb:memB l n with _ | _
      · rfl
      · exact absurd (HR.out.2 (memB_iff.1 hb)) h0
    go_wp2
    go_returns
    exact ⟨HB.out,by rw [HD.out]; show Ending.returned (.bool (decide (0 ≤ r)))=_; rw [decide_eq_false (by omega)]⟩
end Go.Proofs.YtbgbmfmgdgalbaaGreatDoor
