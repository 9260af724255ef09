import Derived.Test.YtbgbmfmgdgalbaaGreatDoorM26
import Derived.Test.YtbgbmfmgdgalbaaGreatDoorM25
import Derived.Test.YtbgbmfmgdgalbaaGreatDoorM21
import Derived.Test.YtbgbmfmgdgalbaaGreatDoorM00
import Derived.Test.YtbgbmfmgdgalbaaGreatDoorM22
import Derived.Test.YtbgbmfmgdgalbaaGreatDoorM20
import Derived.Deep.RegionHeld3
import Derived.Laws.BytesArg
import Derived.Test.YtbgbmfmgdgalbaaGreatDoorM24
import Derived.Test.YtbgbmfmgdgalbaaGreatDoorM01
namespace Go.Proofs.YtbgbmfmgdgalbaaGreatDoor
open Go.ChangeShapes Go.WideShapes Go.RowKit Go.Maps
set_option linter.unusedVariables false
set_option linter.unusedSimpArgs false
set_option maxRecDepth 100000
theorem cellsTx:Tryz.prog.cellsOf 22=1:=by kernel_rfl
theorem cellsKp:Tryz.prog.cellsOf 24=4:=by kernel_rfl
theorem slice_of {H:Type} {enc:TypeId × Value → H} {W:World} {fuel:Nat} {v:Value} {y:DataW H × List MemPlace}
    (h:DataW.trod enc Tryz.prog W 0 (fun _=>true) true fuel 22 [v]=some y):∃ ad len cap,v=.slice ad len cap:=by
  rcases Go.Deep.open_slice Tryz.underlying22 h with ⟨hcs,_⟩ | ⟨a,len',cap',m,n,D,Pl,hcs,_⟩
  · simp at hcs
    exact ⟨none,0,0,hcs⟩
  · simp at hcs
    exact ⟨_,_,_,hcs⟩
theorem openU_kept {H:Type} {enc:TypeId × Value → H} {W:World} {fuel:Nat} {cs:List Value} {x:DataW H × List MemPlace} (hc:cs.length=4)
    (h:DataW.trod enc Tryz.prog W 0 (fun _=>true) true fuel 24 cs=some x) (hb:Rows.uptoBulk x.1 ≤ 1048576) :
    ∃ (TP:Option Addr) (tc:Nat) (T:List ByteArray) (keep:Int) (last:ByteArray) (fail:Int),cs=[.slice TP T.length tc,.int .i64 keep,.string last,.int .i64 fail]∧KR psE W (.slice TP T.length tc) T∧T.length ≤ 1048576∧(∀ t ∈ T,t.size ≤ 1048576)∧(T ≠ [] → ∀ b x n c,(Value.slice TP T.length tc)=.slice (some ⟨b,x,none⟩) n c → b < W.heap.size)∧last.size ≤ 1048576:=by
  obtain ⟨xs,k,hk,hxy,_,hxl,hf⟩:=DataW.trod_struct Tryz.underlying24 h
  match xs,hxl,cs,hc with
  | [y0,y1,y2,y3],_,[v0,v1,v2,v3],_ =>
    have g0:=hf 0 _ rfl
    have g1:=hf 1 _ rfl
    have g2:=hf 2 _ rfl
    have g3:=hf 3 _ rfl
    simp [cellsI,cellsS,cellsTx] at g0 g1 g2 g3
    obtain ⟨z1,e1,_,hw1⟩:=DataW.trod_int Tryz.underlying3 g1
    obtain ⟨z2,e2,hy2,_⟩:=DataW.trod_string Tryz.underlying9 g2
    obtain ⟨z3,e3,_,hw3⟩:=DataW.trod_int Tryz.underlying3 g3
    simp at e1 e2 e3
    rw [hxy] at hb
    simp only [Rows.uptoBulk] at hb
    have h0:=bulk_part (H:=H) (d:=y0.1) (l:=[y0,y1,y2,y3].map (·.1)) (by simp)
    have h2:=bulk_part (H:=H) (d:=y2.1) (l:=[y0,y1,y2,y3].map (·.1)) (by simp)
    rw [hy2] at h2
    simp only [Rows.uptoBulk,list_len] at h2
    simp only [List.map_cons,List.map_nil] at hb h0 h2
    rw [hy2] at hb h0
    simp only [Rows.uptoBulkAll,Rows.uptoBulk,list_len] at hb h0 h2
    obtain ⟨T,hT,hTL,hTS,hTB⟩:=openU_texts (y:=(y0.1,y0.2)) g0 (slice_of g0) (by show Rows.uptoBulk y0.1 ≤ _; omega)
    obtain ⟨TP,tc,hv0⟩:=hT.form
    subst e1; subst e2; subst e3; subst hv0
    exact ⟨TP,tc,T,z1,z2,z3,rfl,hT,hTL,hTS,hTB,by omega⟩
end Go.Proofs.YtbgbmfmgdgalbaaGreatDoor
namespace Go.Proofs.YtbgbmfmgdgalbaaGreatDoor
open Go.RowKit Go.Maps
set_option linter.unusedVariables false
set_option linter.unusedSimpArgs false
def seqM:List (Fs → Fs × Int) → Fs → Fs × Int
  | [],F=>(F,0)
  | m :: l,F=>andM (m F) (seqM l)
theorem and_assoc (r:Fs × Int) (f g:Fs → Fs × Int):andM (andM r f) g=andM r fun G=>andM (f G) g:=by
  by_cases h:r.2=0
  · rw [andM_ok (f:=f) h,andM_ok (f:=fun G=>andM (f G) g) h]
  · rw [andM_no (f:=f) h,andM_no h,andM_no h]
theorem and_end (r:Fs × Int):andM r (fun G=>(G,0))=r:=by
  by_cases h:r.2=0
  · rw [andM_ok h,← h]
  · rw [andM_no h]
theorem seq_app:∀ (A B:List (Fs → Fs × Int)) (F:Fs),seqM (A ++ B) F=andM (seqM A F) (seqM B)
  | [],B,F=>(andM_ok (r:=(F,0)) rfl).symm
  | m :: A,B,F=>by
    show andM (m F) (seqM (A ++ B))=andM (andM (m F) (seqM A)) (seqM B)
    rw [and_assoc]
    congr 1
    exact funext fun G=>seq_app A B G
theorem seq_one (m:Fs → Fs × Int) (F:Fs):seqM [m] F=m F:=and_end _
def piecesL:Nat → ByteArray → List ByteArray
  | 0,_=>[]
  | k + 1,t=>if t.size=0 then [] else t.extract 0 (min 65536 t.size) :: piecesL k (t.extract (min 65536 t.size) t.size)
theorem seq_apps (n:ByteArray):∀ (k:Nat) (t:ByteArray) (F:Fs),seqM ((piecesL k t).map fun p G=>appendM G n p) F=appsM k F n t
  | 0,t,F=>rfl
  | k + 1,t,F=>by
    unfold piecesL appsM
    by_cases h:t.size=0
    · rw [if_pos h,if_pos h]; rfl
    · rw [if_neg h,if_neg h]
      show andM (appendM F n _) (seqM _)=_
      congr 1
      exact funext fun G=>seq_apps n k _ G
def writeL (n t:ByteArray):List (Fs → Fs × Int):=(fun G=>createM G n) :: ((piecesL t.size t).map fun p G=>appendM G n p) ++ [fun G=>syncM G n]
theorem seq_write (n t:ByteArray) (F:Fs):seqM (writeL n t) F=writtenM F n t:=by
  unfold writeL writtenM
  show andM (createM F n) (seqM (((piecesL t.size t).map fun p G=>appendM G n p) ++ [fun G=>syncM G n]))=_
  congr 1
  refine funext fun G=>?_
  rw [seq_app,seq_apps]
  congr 1
  exact funext fun G=>seq_one _ G
theorem named_live:namedM liveN=true:=by decide
theorem has_down {F:Fs} {n:ByteArray} (h:F.down=true):hasM F n=203:=by unfold hasM; rw [if_pos h]
theorem there_iff {F:Fs} {n:ByteArray}:thereM F n=true ↔ hasM F n=0:=by
  unfold thereM readM
  rw [decide_eq_true_eq]
  by_cases h:hasM F n=0
  · rw [if_pos h]; simp [h]
  · rw [if_neg h]
theorem there_down {F:Fs} {n:ByteArray} (h:F.down=true):thereM F n=false:=by
  rcases hb:thereM F n with _ | _
  · rfl
  · have:=there_iff.1 hb
    rw [has_down h] at this
    exact absurd this (by decide)
theorem rename_down {F:Fs} {n t:ByteArray} (h:F.down=true):renameM F n t=(F,203):=by
  unfold renameM
  rw [h,has_down h]
  rfl
theorem syncDir_down {F:Fs} (h:F.down=true):syncDirM F=(F,203):=by unfold syncDirM; rw [if_pos h]
def ifThM (n:ByteArray) (m:Fs → Fs × Int) (F:Fs):Fs × Int:=if F.down then (F,203) else if thereM F n then m F else (F,0)
def renS (i:Nat):Fs → Fs × Int:=ifThM (oldN i) (fun G=>renameM G (oldN i) (oldN (i + 1)))
def remS (i:Nat):Fs → Fs × Int:=ifThM (oldN i) (fun G=>removeM G (oldN i))
def rensL:Nat → List (Fs → Fs × Int)
  | 0=>[]
  | i + 1=>renS (i + 1) :: rensL i
def remsL:Nat → List (Fs → Fs × Int)
  | 0=>[]
  | m + 1=>remS (8 - m) :: remsL m
theorem rens_down {F:Fs} (h:F.down=true):∀ i,rensM i F=(F,0)
  | 0=>rfl
  | i + 1=>by
    unfold rensM
    rw [there_down h]
    exact rens_down h i
theorem rems_down {F:Fs} (h:F.down=true):∀ i,remsM i F=(F,0)
  | 0=>rfl
  | i + 1=>by
    unfold remsM
    rw [there_down h]
    exact rems_down h i
theorem ifTh_down {F:Fs} {n:ByteArray} {m:Fs → Fs × Int} (h:F.down=true):ifThM n m F=(F,203):=by unfold ifThM; rw [if_pos h]
theorem seq_rens (n t:ByteArray):∀ (i:Nat) (F:Fs),andM (seqM (rensL i) F) (fun G=>renameM G n t)=andM (rensM i F) (fun G=>renameM G n t)
  | 0,F=>rfl
  | i + 1,F=>by
    show andM (andM (renS (i + 1) F) (seqM (rensL i))) _=_
    unfold renS
    by_cases hd:F.down=true
    · rw [ifTh_down hd,andM_no (r:=(F,(203:Int))) (by decide:(203:Int) ≠ 0),andM_no (r:=(F,(203:Int))) (by decide:(203:Int) ≠ 0),rens_down hd,andM_ok (r:=(F,(0:Int))) rfl,rename_down hd]
    · unfold ifThM rensM
      rw [if_neg hd]
      by_cases ht:thereM F (oldN (i + 1))=true
      · rw [if_pos ht,if_pos ht,and_assoc,and_assoc]
        congr 1
        exact funext fun G=>seq_rens n t i G
      · rw [if_neg ht,if_neg ht,andM_ok (r:=(F,(0:Int))) rfl]
        exact seq_rens n t i F
theorem seq_rems:∀ (i:Nat) (F:Fs),andM (seqM (remsL i) F) syncDirM=andM (remsM i F) syncDirM
  | 0,F=>rfl
  | i + 1,F=>by
    show andM (andM (remS (8 - i) F) (seqM (remsL i))) _=_
    unfold remS
    by_cases hd:F.down=true
    · rw [ifTh_down hd,andM_no (r:=(F,(203:Int))) (by decide:(203:Int) ≠ 0),andM_no (r:=(F,(203:Int))) (by decide:(203:Int) ≠ 0),rems_down hd,andM_ok (r:=(F,(0:Int))) rfl,syncDir_down hd]
    · unfold ifThM remsM
      rw [if_neg hd]
      by_cases ht:thereM F (oldN (8 - i))=true
      · rw [if_pos ht,if_pos ht,and_assoc,and_assoc]
        congr 1
        exact funext fun G=>seq_rems i G
      · rw [if_neg ht,if_neg ht,andM_ok (r:=(F,(0:Int))) rfl]
        exact seq_rems i F
def keptL (t:ByteArray) (keep:Nat):List (Fs → Fs × Int):=(fun G=>writtenM G tmpO t) :: rensL (keep - 1) ++ [fun G=>renameM G tmpO (oldN 1)]
def turnM (keep:Nat) (F:Fs):Fs × Int:=if keep=0 then (F,0) else if (readM F liveN).2=0 then seqM (keptL (readM F liveN).1 keep) F else if (readM F liveN).2=201 then (F,0) else (F,(readM F liveN).2)
theorem seq_kept {F:Fs} (keep:Nat) (h:(readM F liveN).2=0):seqM (keptL (readM F liveN).1 keep) F=keptM F keep:=by
  unfold keptL keptM
  rw [if_pos h]
  show andM (writtenM F tmpO _) (seqM (rensL (keep - 1) ++ [fun G=>renameM G tmpO (oldN 1)]))=_
  congr 1
  refine funext fun G=>?_
  rw [seq_app,← seq_rens]
  congr 1
  exact funext fun G=>seq_one _ G
theorem read_err (F:Fs):(readM F liveN).2=hasM F liveN:=by
  unfold readM
  by_cases h:hasM F liveN=0
  · rw [if_pos h,h]
  · rw [if_neg h]
theorem read_cases (F:Fs):((readM F liveN).2=203∧F.down=true) ∨ ((readM F liveN).2=201∧F.down=false) ∨ ((readM F liveN).2=0∧F.down=false):=by
  rw [read_err]
  unfold hasM
  rcases hd:F.down with _ | _
  · rw [if_neg (by simp),if_pos named_live]
    by_cases hf:findM F.dir liveN < 0
    · rw [if_pos hf]; exact Or.inr (Or.inl ⟨rfl,rfl⟩)
    · rw [if_neg hf]; exact Or.inr (Or.inr ⟨rfl,rfl⟩)
  · rw [if_pos rfl]; exact Or.inl ⟨rfl,rfl⟩
def dropM (keep:Nat) (F:Fs):Fs × Int:=seqM (remsL (8 - keep)) F
def runL (t:ByteArray) (keep:Nat):List (Fs → Fs × Int):=[fun G=>writtenM G tmpS t,turnM keep,fun G=>renameM G tmpS liveN,dropM keep,syncDirM]
theorem turn_eq (keep:Nat) (G:Fs) (f:Fs → Fs × Int):andM (turnM keep G) (fun G=>andM (renameM G tmpS liveN) f)=andM (if decide (0 < keep) && thereM G liveN then keptM G keep else (G,0)) (fun G=>andM (renameM G tmpS liveN) f):=by
  unfold turnM
  by_cases hk:keep=0
  · subst hk
    rw [if_pos rfl]
    rfl
  · rw [if_neg hk]
    have hk':decide (0 < keep)=true:=by simp; omega
    rw [hk',Bool.true_and]
    rcases read_cases G with ⟨h,hd⟩ | ⟨h,hd⟩ | ⟨h,hd⟩
    · rw [h,if_neg (by decide),if_neg (by decide),there_down hd]
      show andM (G,203) _=andM (G,0) _
      rw [andM_no (r:=(G,(203:Int))) (by decide:(203:Int) ≠ 0),andM_ok (r:=(G,(0:Int))) rfl,rename_down hd,andM_no (r:=(G,(203:Int))) (by decide:(203:Int) ≠ 0)]
    · have ht:thereM G liveN=false:=by unfold thereM; rw [h]; rfl
      rw [h,if_neg (by decide),if_pos rfl,ht]
      rfl
    · have ht:thereM G liveN=true:=by unfold thereM; rw [h]; rfl
      rw [if_pos h,seq_kept keep h,ht]
      rfl
theorem seq_run (t:ByteArray) (keep:Nat) (F:Fs):seqM (runL t keep) F=stepsM F t keep:=by
  unfold runL stepsM
  show andM (writtenM F tmpS t) (fun G=>andM (turnM keep G) (fun G=>andM (renameM G tmpS liveN) (fun G=>andM (dropM keep G) (fun G=>andM (syncDirM G) (fun G=>(G,0))))))=_
  congr 1
  refine funext fun G=>?_
  rw [turn_eq]
  congr 1
  refine funext fun G=>?_
  congr 1
  refine funext fun G=>?_
  unfold dropM
  rw [← seq_rems]
  congr 1
  exact funext fun G=>and_end _
theorem ifTh_clean (F:Fs) (n:ByteArray):(ifThM n (fun G=>removeM G n) F).1=cleanM F n:=by
  unfold ifThM cleanM
  by_cases hd:F.down=true
  · rw [if_pos hd,there_down hd]; rfl
  · rw [if_neg hd]; split <;> rfl
/-! Tidy. -/
def tidyL (l:List ByteArray):List (Fs → Fs × Int):=(l.filter isTmp).map fun n G=>removeM G n
theorem seq_tidys:∀ (l:List ByteArray) (n:Nat) (F:Fs),tidysM l n F=((seqM (tidyL l) F).1,(if (seqM (tidyL l) F).2=0 then ((n + (l.filter isTmp).length:Nat):Int) else 0),(seqM (tidyL l) F).2)
  | [],n,F=>by
    show (F,(n:Int),(0:Int))=(F,(if (0:Int)=0 then ((n + 0:Nat):Int) else 0),(0:Int))
    rw [if_pos rfl]; rfl
  | x :: l,n,F=>by
    unfold tidysM
    by_cases hx:isTmp x=true
    · have e1:tidyL (x :: l)=(fun G=>removeM G x) :: tidyL l:=by unfold tidyL; rw [List.filter_cons_of_pos hx]; rfl
      have e2:((x :: l).filter isTmp).length=(l.filter isTmp).length + 1:=by rw [List.filter_cons_of_pos hx]; rfl
      have e3:seqM (tidyL (x :: l)) F=andM (removeM F x) (seqM (tidyL l)):=by rw [e1]; rfl
      rw [if_pos hx,e3,e2]
      simp only
      by_cases h0:(removeM F x).2=0
      · rw [if_pos h0,seq_tidys l (n + 1),andM_ok h0]
        have:n + 1 + (l.filter isTmp).length=n + ((l.filter isTmp).length + 1):=by omega
        rw [this]
      · rw [if_neg h0,andM_no h0,if_neg h0]
    · have e1:tidyL (x :: l)=tidyL l:=by unfold tidyL; rw [List.filter_cons_of_neg hx]
      have e2:((x :: l).filter isTmp)=(l.filter isTmp):=by rw [List.filter_cons_of_neg hx]
      rw [if_neg hx,e1,e2]
      exact seq_tidys l n F
def tidyAll (l:List ByteArray):List (Fs → Fs × Int):=if 0 < (l.filter isTmp).length then tidyL l ++ [syncDirM] else tidyL l
theorem tidy_eq (F:Fs):tidyM F=if F.down then (F,0,203) else ((seqM (tidyAll (F.dir.map (·.1))) F).1,(if (seqM (tidyAll (F.dir.map (·.1))) F).2=0 then (((F.dir.map (·.1)).filter isTmp).length:Int) else 0),(seqM (tidyAll (F.dir.map (·.1))) F).2):=by
  unfold tidyM listM
  by_cases hd:F.down=true
  · rw [if_pos hd,if_pos hd]; rfl
  · rw [if_neg hd,if_neg hd]
    simp only
    rw [if_pos trivial,seq_tidys]
    simp only
    unfold tidyAll
    generalize hL:F.dir.map (·.1)=L
    by_cases hc:0 < (L.filter isTmp).length
    · rw [if_pos hc,seq_app]
      by_cases h0:(seqM (tidyL L) F).2=0
      · rw [if_pos h0,if_pos h0,if_pos (by omega),andM_ok h0,seq_one]
        by_cases h1:(syncDirM (seqM (tidyL L) F).1).2=0
        · rw [if_pos h1,if_pos h1,h1]; simp
        · rw [if_neg h1,if_neg h1]
      · rw [if_neg h0,andM_no h0,if_neg h0,if_neg h0]
    · rw [if_neg hc]
      by_cases h0:(seqM (tidyL L) F).2=0
      · rw [if_pos h0,if_pos h0,if_neg (by omega)]
        have:(L.filter isTmp).length=0:=by omega
        rw [this]; simp
      · rw [if_neg h0,if_neg h0,if_neg h0]
theorem step_up {F:Fs} (h:(stepM F).2.1=0) (hd:F.down=false):(stepM F).1.down=false:=by rw [stepM_zero h]; exact hd
theorem remove_up {F:Fs} {n:ByteArray} (h:(removeM F n).2=0):(removeM F n).1.down=false:=by
  unfold removeM at h ⊢
  by_cases h0:hasM F n=0
  · rw [if_pos h0] at h ⊢
    simp only at h ⊢
    by_cases h1:(stepM F).2.1=0
    · rw [if_pos h1]
      exact step_up h1 (has_zero.1 h0).1
    · rw [if_neg h1] at h; exact absurd h h1
  · rw [if_neg h0] at h; exact absurd h h0
theorem syncDir_up {F:Fs} (h:(syncDirM F).2=0):(syncDirM F).1.down=false:=by
  unfold syncDirM at h ⊢
  by_cases hd:F.down=true
  · rw [if_pos hd] at h; exact absurd (show (203:Int)=0 from h) (by decide)
  · rw [if_neg hd] at h ⊢
    simp only at h ⊢
    by_cases h1:(stepM F).2.1=0
    · rw [if_pos h1]
      exact step_up h1 (by simpa using hd)
    · rw [if_neg h1] at h; exact absurd h h1
theorem seq_up:∀ (l:List (Fs → Fs × Int)) (F:Fs),(∀ m ∈ l,∀ G,(m G).2=0 → (m G).1.down=false) → F.down=false → (seqM l F).2=0 → (seqM l F).1.down=false
  | [],F,_,hd,_=>hd
  | m :: l,F,hm,hd,h=>by
    have e:seqM (m :: l) F=andM (m F) (seqM l):=rfl
    rw [e] at h ⊢
    by_cases h0:(m F).2=0
    · rw [andM_ok h0] at h ⊢
      exact seq_up l _ (fun k hk=>hm k (List.mem_cons_of_mem _ hk)) (hm m (List.mem_cons_self ..) F h0) h
    · rw [andM_no h0] at h; exact absurd h h0
theorem tidy_up {F:Fs} (h:(tidyM F).2.2=0):(tidyM F).1.down=false:=by
  rw [tidy_eq] at h ⊢
  by_cases hd:F.down=true
  · rw [if_pos hd] at h; exact absurd (show (203:Int)=0 from h) (by decide)
  · rw [if_neg hd] at h ⊢
    simp only at h ⊢
    refine seq_up _ _ (fun m hm G hG=>?_) (by simpa using hd) h
    have hT:∀ m ∈ tidyL (F.dir.map (·.1)),∀ G,(m G).2=0 → (m G).1.down=false:=fun m hm G hG=>by
      unfold tidyL at hm
      obtain ⟨n,_,rfl⟩:=List.mem_map.1 hm
      exact remove_up hG
    unfold tidyAll at hm
    split at hm
    · rcases List.mem_append.1 hm with hm | hm
      · exact hT m hm G hG
      · rw [List.mem_singleton] at hm; subst hm; exact syncDir_up hG
    · exact hT m hm G hG
end Go.Proofs.YtbgbmfmgdgalbaaGreatDoor
namespace Go.Proofs.YtbgbmfmgdgalbaaGreatDoor
open Go.RowKit
set_option linter.unusedVariables false
set_option linter.unusedSimpArgs false
theorem dig_ext (N:Nat) (h:N ≤ 9):ByteArray.extract ({ data:=#[48,49,50,51,52,53,54,55,56,57,97,98,99,100,101,102,103,104,105,106,107,108,109,110,111,112,113,114,115,116,117,118,119,120,121,122] }:ByteArray) N (N + 1)=⟨#[UInt8.ofNat (48 + N)]⟩:=by
  have:∀ x:Fin 10,ByteArray.extract ({ data:=#[48,49,50,51,52,53,54,55,56,57,97,98,99,100,101,102,103,104,105,106,107,108,109,110,111,112,113,114,115,116,117,118,119,120,121,122] }:ByteArray) x.val (x.val + 1)=⟨#[UInt8.ofNat (48 + x.val)]⟩:=by decide
  exact this ⟨N,by omega⟩
set_option maxHeartbeats 1000000 in
theorem small_any (N:Nat) (h2:N ≤ 9) (d:ByteArray) (hd:d=⟨#[UInt8.ofNat (48 + N)]⟩) (w:World):Calls Tryz.prog 179 #[.int .i64 (N:Int)] w fun e w'=>e=.returned (.string d)∧w'=w:=by
  have hz0:(N:Int) < 10:=by omega
  have hz1:(0:Int) ≤ (N:Int):=by omega
  have hiw:IntKind.i64.wrap ((N:Int) + 1)=(N:Int) + 1:=by rw [IntKind.wrap_i64] <;> omega
  have hz2:(N:Int) + 1 ≤ 36:=by omega
  have HE:Hid (ByteArray.extract ({ data:=#[48,49,50,51,52,53,54,55,56,57,97,98,99,100,101,102,103,104,105,106,107,108,109,110,111,112,113,114,115,116,117,118,119,120,121,122] }:ByteArray) N (N + 1)=d):=by rw [hd]; exact dig_ext N h2
  have hsz:({ data:=#[48,49,50,51,52,53,54,55,56,57,97,98,99,100,101,102,103,104,105,106,107,108,109,110,111,112,113,114,115,116,117,118,119,120,121,122] }:ByteArray).size=36:=rfl
  clear h2 hd
  go_enter Tryz.func179,Tryz.ntmps179
  go_wp2
  go_returns
  exact ⟨by rw [← HE.out]; rfl,rfl⟩
theorem fmt_small (N:Nat) (h2:N ≤ 9) (d:ByteArray) (hd:d=⟨#[UInt8.ofNat (48 + N)]⟩) (w:World):Calls Tryz.prog 166 #[.int .i64 (N:Int),.int .i64 10] w fun e w'=>e=.returned (.string d)∧w'=w:=by
  have hz0:(0:Int) ≤ (N:Int):=by omega
  have hz1:(N:Int) < 100:=by omega
  have HQ:Hid _:=small_any N h2 d hd
  clear h2 hd
  go_enter Tryz.func166,Tryz.ntmps166
  go_wp2_with fail
  refine (show Calls _ _ _ _ _ from HQ.out _).mono ?_
  rintro e w1 ⟨rfl,rfl⟩
  go_wp2
  go_returns
  exact ⟨rfl,rfl⟩
theorem itoa_small (N:Nat) (h2:N ≤ 9) (d:ByteArray) (hd:d=⟨#[UInt8.ofNat (48 + N)]⟩) (w:World):Calls Tryz.prog 151 #[.int .i64 (N:Int)] w fun e w'=>e=.returned (.string d)∧w'=w:=by
  have HQ:Hid _:=fmt_small N h2 d hd
  clear h2 hd
  go_enter Tryz.func151,Tryz.ntmps151
  go_wp2_with fail
  refine (show Calls _ _ _ _ _ from HQ.out _).mono ?_
  rintro e w1 ⟨rfl,rfl⟩
  go_wp2
  go_returns
  exact ⟨rfl,rfl⟩
theorem itoa_small2 (N:Nat) (h2:N ≤ 9) (d:ByteArray) (hd:d=⟨#[UInt8.ofNat (48 + N)]⟩) (w:World):Calls Tryz.prog 113 #[.int .i64 (N:Int)] w fun e w'=>e=.returned (.string d)∧w'=w:=by
  have HQ:Hid _:=itoa_small N h2 d hd
  clear h2 hd
  go_enter Tryz.func113,Tryz.ntmps113
  go_wp2_with fail
  refine (show Calls _ _ _ _ _ from HQ.out _).mono ?_
  rintro e w1 ⟨rfl,rfl⟩
  go_wp2
  go_returns
  exact ⟨rfl,rfl⟩
theorem pdigits_small (N:Nat) (h2:N ≤ 9) (d:ByteArray) (hd:d=⟨#[UInt8.ofNat (48 + N)]⟩) (w:World):Calls Tryz.prog 69 #[.int .i64 (N:Int)] w fun e w'=>e=.returned (.string d)∧w'=w:=by
  have HQ:Hid _:=itoa_small2 N h2 d hd
  clear h2 hd
  go_enter Tryz.func69,Tryz.ntmps69
  go_wp2_with fail
  refine (show Calls _ _ _ _ _ from HQ.out _).mono ?_
  rintro e w1 ⟨rfl,rfl⟩
  go_wp2
  go_returns
  exact ⟨rfl,rfl⟩
end Go.Proofs.YtbgbmfmgdgalbaaGreatDoor
