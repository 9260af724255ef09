import Derived.Test.YtbgbmfmgdgalbaaGreatDoorProg
import Derived.WalkKit
import Derived.WalkSpells
import Derived.WalkLawsBesides
import Derived.Handy
import Derived.Laws.BytesArg
import Derived.Laws.IdiomStrings
import Derived.Lib.AppendStr
import Derived.Deep.QuietTactic
import Derived.BigQuiet
import Derived.RangeFuncOwn
import Derived.Laws.AppendOwnNone
import Derived.Laws.AppendOwn
import Derived.Lib.ItoaMem
import Derived.Deep.RegionHeld3
import Derived.Lib.Builder
import Derived.Lib.MakeNoZero
import Derived.Lib.UnsafeStr
import Derived.Laws.Externs
import Derived.Laws.IdiomCopy
namespace Go.Proofs.YtbgbmfmgdgalbaaGreatDoor
open Go.RowKit
set_option linter.unusedVariables false

theorem below_dn {B:Nat} {a w:World} (h:Below B a w) (n:Nat):Below B a (w.drewN n):=h.trans ⟨rfl,rfl,rfl,Nat.le_refl _,fun _ _=>rfl⟩
theorem at_list (s:ByteArray) (k:Nat) (h:k < s.size):s.data.toList[k]?=some s[k]:=by
  rw [List.getElem?_eq_getElem (by simpa using h)]; rfl
theorem list_len (s:ByteArray):s.data.toList.length=s.size:=by show _=s.data.size; simp
theorem ext_any (s:ByteArray) (i j:Nat):(s.extract i j).data.toList=(s.data.toList.drop i).take (j - i):=by
  rw [ByteArray.data_extract]
  simp [Array.toList_extract,List.extract_eq_take_drop]
theorem ext_size (s:ByteArray) (i j:Nat) (h:j ≤ s.size):(s.extract i j).size=j - i:=by
  rw [ByteArray.size_extract]; omega
theorem str_same {a b:ByteArray} (h:a.data.toList=b.data.toList):(a.toList == b.toList)=true:=by
  rw [ByteArray.toList_eq,ByteArray.toList_eq,h]; simp
theorem str_other {a b:ByteArray} (h:a.data.toList ≠ b.data.toList):(a.toList == b.toList)=false:=by
  rw [ByteArray.toList_eq,ByteArray.toList_eq]; simpa using h
theorem str_empty {s:ByteArray} (h:s.size=0):s.toList.isEmpty=true:=by
  rw [ByteArray.toList_eq,List.isEmpty_iff]
  exact List.length_eq_zero_iff.1 (by rw [list_len]; exact h)
theorem str_full {s:ByteArray} (h:¬ s.size=0):s.toList.isEmpty=false:=by
  rw [ByteArray.toList_eq]
  cases hh:s.data.toList with
  | nil=>exact absurd (by rw [← list_len,hh]; rfl) h
  | cons a t=>rfl
def strB (l:List UInt8):ByteArray:=⟨l.toArray⟩
theorem strB_list (l:List UInt8):(strB l).data.toList=l:=by unfold strB; simp
theorem row_lt {w:World} {b:Nat} {o:Obj} (h:w.heap[b]?=some o):b < w.heap.size:=by
  rcases Nat.lt_or_ge b w.heap.size with h' | h'
  · exact h'
  · rw [Array.getElem?_eq_none h'] at h; cases h
theorem own_keep {w w':World} {base e size:Nat} {v:Value} {n:Nat} {xs:List Value} (h:w.ownsRow base e size v n xs) (hk:∀ k,base ≤ k → k < w.heap.size → w'.heap[k]?=w.heap[k]?):w'.ownsRow base e size v n xs:=by
  refine ⟨h.1,?_⟩
  rcases h.2 with h1 | ⟨g,cap,cur,hv,hb,hg,r⟩
  · exact Or.inl h1
  · exact Or.inr ⟨g,cap,cur,hv,hb,by rw [hk g hb (row_lt hg)]; exact hg,r⟩
theorem own_form {w:World} {base e size:Nat} {v:Value} {n:Nat} {xs:List Value} (h:w.ownsRow base e size v n xs):∃ p c,v=.slice p n c:=by
  rcases h.2 with ⟨e,hn⟩ | ⟨gg,cap',cur,e,_⟩
  · exact ⟨none,0,by rw [e,hn]⟩
  · exact ⟨_,_,e⟩
end Go.Proofs.YtbgbmfmgdgalbaaGreatDoor
namespace Go.Proofs.YtbgbmfmgdgalbaaGreatDoor
open Go.RowKit
set_option linter.unusedVariables false
structure Only (w w':World) (g:Nat):Prop where
  os:w'.os=w.os
  tape:w'.tape=w.tape
  output:w'.output=w.output
  size:w'.heap.size=w.heap.size
  other:∀ k,k ≠ g → w'.heap[k]?=w.heap[k]?
theorem Only.refl (w:World) (g:Nat):Only w w g:=⟨rfl,rfl,rfl,rfl,fun _ _=>rfl⟩
theorem Only.trans {w w1 w2:World} {g:Nat} (h:Only w w1 g) (h':Only w1 w2 g):Only w w2 g:=
  ⟨h'.os.trans h.os,h'.tape.trans h.tape,h'.output.trans h.output,h'.size.trans h.size,fun k hk=>(h'.other k hk).trans (h.other k hk)⟩
theorem Only.below {w w':World} {g B:Nat} (h:Only w w' g) (hg:B ≤ g):Below B w w':=
  ⟨h.os,h.tape,h.output,by rw [h.size]; exact Nat.le_refl _,fun k hk=>h.other k (by omega)⟩
theorem Only.set {w w':World} {g:Nat} (h:Only w w' g) (i:Nat) (v:Value):Only w (w'.setCell ⟨g,i,none⟩ v) g:=
  h.trans ⟨rfl,rfl,rfl,by simp,fun k hk=>heap_setCell_other _ _ _ _ hk⟩
theorem one_alloc (w:World) (A:Obj):(w.alloc A).heap[w.heap.size]?=some A:=by
  show (w.heap.push A)[w.heap.size]?=some A
  rw [Array.getElem?_push,if_pos rfl]
theorem keep_row {w w':World} {g:Nat} {o:Obj} (h:w.heap[g]?=some o) (hb:Below w.heap.size w w'):w'.heap[g]?=some o:=(hb.block g (row_lt h)).trans h
theorem bel_to {B:Nat} {w w1 w2:World} (h1:Below B w w1) (h2:Below w1.heap.size w1 w2) (hB:B ≤ w.heap.size):Below B w w2:=h1.trans (h2.mono (Nat.le_trans hB h1.size))
theorem lt_of_cell {w:World} {a:Addr} {v:Value} (h:w.cell? a=some v):a.block < w.heap.size:=by
  obtain ⟨o,ho,_⟩:=cells_of_cell h; exact row_lt ho
theorem cell_on {w w':World} {a:Addr} {v:Value} (h:w.cell? a=some v) (hb:Below w.heap.size w w'):w'.cell? a=some v:=
  (hb.cell (p:=a) (lt_of_cell h)).trans h
end Go.Proofs.YtbgbmfmgdgalbaaGreatDoor
namespace Go.Proofs.YtbgbmfmgdgalbaaGreatDoor
open Go.RowKit
set_option linter.unusedVariables false
theorem byl_irrefl:∀ x:List UInt8,Op.bytesLess x x=false
  | []=>rfl
  | a :: x=>by simp [Op.bytesLess,byl_irrefl x]
theorem byl_trans:∀ x y z:List UInt8,Op.bytesLess x y=true → Op.bytesLess y z=true → Op.bytesLess x z=true
  | _,[],_,h,_=>by simp [Op.bytesLess] at h
  | _,_ :: _,[],_,h=>by simp [Op.bytesLess] at h
  | [],_ :: _,_ :: _,_,_=>by simp [Op.bytesLess]
  | a :: x,b :: y,c :: z,h1,h2=>by
    simp only [Op.bytesLess,Bool.or_eq_true,decide_eq_true_eq,Bool.and_eq_true,beq_iff_eq] at h1 h2 ⊢
    rcases h1 with h1 | ⟨rfl,h1⟩ <;> rcases h2 with h2 | ⟨rfl,h2⟩
    · exact Or.inl (UInt8.lt_trans h1 h2)
    · exact Or.inl h1
    · exact Or.inl h2
    · exact Or.inr ⟨rfl,byl_trans x y z h1 h2⟩
theorem byl_tri:∀ x y:List UInt8,Op.bytesLess x y=false → Op.bytesLess y x=false → x=y
  | [],[],_,_=>rfl
  | [],_ :: _,h,_=>by simp [Op.bytesLess] at h
  | _ :: _,[],_,h=>by simp [Op.bytesLess] at h
  | a :: x,b :: y,h1,h2=>by
    simp only [Op.bytesLess,Bool.or_eq_false_iff,decide_eq_false_iff_not,Bool.and_eq_false_iff,beq_eq_false_iff_ne] at h1 h2
    have hab:a=b:=UInt8.toNat_inj.1 (by have:=h1.1; have:=h2.1; rw [UInt8.lt_iff_toNat_lt] at *; omega)
    subst hab
    rw [byl_tri x y (by rcases h1.2 with h | h; exact absurd rfl h; exact h) (by rcases h2.2 with h | h; exact absurd rfl h; exact h)]
def ltB (a b:ByteArray):Bool:=Op.bytesLess a.toList b.toList
theorem ltB_irr (a:ByteArray):ltB a a=false:=byl_irrefl _
theorem ltB_trans {a b c:ByteArray} (h1:ltB a b=true) (h2:ltB b c=true):ltB a c=true:=byl_trans _ _ _ h1 h2
theorem ltB_tri {a b:ByteArray} (h1:ltB a b=false) (h2:ltB b a=false):a=b:=by
  have:=byl_tri _ _ h1 h2
  rw [ByteArray.toList_eq,ByteArray.toList_eq] at this
  exact ByteArray.ext (Array.toList_inj.1 this)
theorem ltB_asym {a b:ByteArray} (h:ltB a b=true):ltB b a=false:=by
  rcases h2:ltB b a with _ | _
  · rfl
  · have:=ltB_trans h h2; rw [ltB_irr] at this; cases this
structure Fi where
  d:ByteArray
  s:Nat
abbrev Sl:=ByteArray × Int
structure Ch where
  n:ByteArray
  t:ByteArray
  f:Int
structure Fs where
  down:Bool
  steps:Nat
  files:List Fi
  dir:List Sl
  sure:List Sl
  chg:List Ch
  fails:List (Int × Int)
  crash:Int
  picks:List Int
def okC (c:Nat):Bool:=(decide (97 ≤ c) && decide (c ≤ 122)) || (decide (65 ≤ c) && decide (c ≤ 90)) || (decide (48 ≤ c) && decide (c ≤ 57)) || decide (c=46) || decide (c=45) || decide (c=95)
def namedM (s:ByteArray):Bool:=decide (0 < s.size) && decide (s.size ≤ 64) && !(s.data.toList == [46]) && !(s.data.toList == [46,46]) && s.data.toList.all (fun c=>okC c.toNat)
def findM (d:List Sl) (n:ByteArray):Int:=((d.find? fun x=>decide (x.1=n)).map (·.2)).getD (-1)
def boundL (n:ByteArray) (f:Int):Bool → List Sl → Bool × List Sl
  | done,[]=>(done,[])
  | done,x :: d =>
    let now:=!done && ltB n x.1
    let r:=boundL n f (done || now) d
    (r.1,(if now then [(n,f)] else []) ++ (if x.1=n then [] else [x]) ++ r.2)
def boundM (d:List Sl) (n:ByteArray) (f:Int):List Sl:=
  let r:=boundL n f (decide (f < 0)) d
  r.2 ++ (if r.1 then [] else [(n,f)])
def afterM (d:List Sl) (c:Ch):List Sl:=if c.t.size=0 then boundM d c.n c.f else boundM (boundM d c.n (-1)) c.t c.f
def changeM (s:Fs) (c:Ch):Fs:={ s with dir:=afterM s.dir c,chg:=s.chg ++ [c] }
def pickM (p:List Int) (i:Nat) (n:Nat):Nat:=match p[i]? with
  | none=>0
  | some x=>if x < 0 then 0 else (x % ((n:Int) + 1)).toNat
def cutF (x:Fi) (k:Nat):Fi:=⟨x.d.extract 0 (x.s + k),x.s + k⟩
def downF (p:List Int):Nat → List Fi → List Fi
  | _,[]=>[]
  | i,x :: l=>cutF x (pickM p (i + 1) (x.d.size - x.s)) :: downF p (i + 1) l
def downM (s:Fs) (p:List Int):Fs:=
  let d:=(s.chg.take (pickM p 0 s.chg.length)).foldl afterM s.sure
  ⟨true,s.steps,downF p 0 s.files,d,d,[],[],0,[]⟩
def failM (fails:List (Int × Int)) (n:Nat):Option Int:=(fails.reverse.find? fun x=>x.1 == (n:Int)).map (·.2)
def stepM (s0:Fs):Fs × Int × Int:=
  let s:={ s0 with steps:=s0.steps + 1 }
  if s.crash=(s.steps:Int) then (downM s s.picks,203,0) else
  match failM s.fails s.steps with
  | some p=>(s,200,p)
  | none=>(s,0,0)
def hasM (s:Fs) (n:ByteArray):Int:=if s.down then 203 else if namedM n then (if findM s.dir n < 0 then 201 else 0) else 202
def createM (s:Fs) (n:ByteArray):Fs × Int:=
  if s.down then (s,203) else if namedM n then
    (if findM s.dir n < 0∧64 ≤ s.dir.length then (s,3) else
      let r:=stepM s
      if r.2.1=0 then (changeM { r.1 with files:=r.1.files ++ [⟨⟨#[]⟩,0⟩] } ⟨n,⟨#[]⟩,(r.1.files.length:Int)⟩,0) else (r.1,r.2.1))
  else (s,202)
def appendM (s:Fs) (n dat:ByteArray):Fs × Int:=
  if hasM s n=0 then
    let i:=(findM s.dir n).toNat
    let x:=s.files.getD i ⟨⟨#[]⟩,0⟩
    if 1073741824 < x.d.size + dat.size then (s,2) else
      let r:=stepM s
      if r.2.1=203 then (r.1,203) else
        let m:=if r.2.1=200 then dat.extract 0 (max 0 (min r.2.2 (dat.size:Int))).toNat else dat
        ({ r.1 with files:=r.1.files.set i ⟨x.d ++ m,x.s⟩ },r.2.1)
  else (s,hasM s n)
def syncM (s:Fs) (n:ByteArray):Fs × Int:=
  if hasM s n=0 then
    let i:=(findM s.dir n).toNat
    let r:=stepM s
    if r.2.1=0 then
      let x:=r.1.files.getD i ⟨⟨#[]⟩,0⟩
      ({ r.1 with files:=r.1.files.set i ⟨x.d,x.d.size⟩ },0)
    else (r.1,r.2.1)
  else (s,hasM s n)
def renameM (s:Fs) (n t:ByteArray):Fs × Int:=
  if !s.down && !namedM t then (s,202) else if hasM s n=0 then
    let r:=stepM s
    if r.2.1=0 then (changeM r.1 ⟨n,t,findM s.dir n⟩,0) else (r.1,r.2.1)
  else (s,hasM s n)
def syncDirM (s:Fs):Fs × Int:=
  if s.down then (s,203) else
    let r:=stepM s
    if r.2.1=0 then ({ r.1 with sure:=r.1.dir,chg:=[] },0) else (r.1,r.2.1)
def removeM (s:Fs) (n:ByteArray):Fs × Int:=
  if hasM s n=0 then
    let r:=stepM s
    if r.2.1=0 then (changeM r.1 ⟨n,⟨#[]⟩,-1⟩,0) else (r.1,r.2.1)
  else (s,hasM s n)
def readM (s:Fs) (n:ByteArray):ByteArray × Int:=if hasM s n=0 then ((s.files.getD (findM s.dir n).toNat ⟨⟨#[]⟩,0⟩).d,0) else (⟨#[]⟩,hasM s n)
def listM (s:Fs):List ByteArray × Int:=if s.down then ([],203) else (s.dir.map (·.1),0)
def failsM (s:Fs) (n p:Int):Fs × Int:=if s.down then (s,203) else if n < 1 ∨ 1099511627776 < n then (s,1) else ({ s with fails:=s.fails ++ [((s.steps:Int) + n,p)] },0)
def crashM (s:Fs) (n:Int) (p:List Int):Fs × Int:=if s.down then (s,203) else if n < 0 ∨ 1099511627776 < n then (s,1) else if n=0 then (downM s p,0) else ({ s with crash:=(s.steps:Int) + n,picks:=p },0)
def startM (s:Fs):Fs × Int:=if s.down then ({ s with down:=false },0) else (s,1)
def nowM (s:Fs):List (ByteArray × ByteArray):=s.dir.map fun x=>(x.1,(s.files.getD x.2.toNat ⟨⟨#[]⟩,0⟩).d)
def newM:Fs:=⟨false,0,[],[],[],[],[],0,[]⟩
end Go.Proofs.YtbgbmfmgdgalbaaGreatDoor
namespace Go.Proofs.YtbgbmfmgdgalbaaGreatDoor
open Go.RowKit
set_option linter.unusedVariables false
structure ET (α:Type) where
  enc:α → List Value
  k:Nat
  by_:Nat
  T:TypeId
  ST:TypeId
  z:Value
structure ETok {α:Type} (E:ET α):Prop where
  und:Tryz.prog.underlying E.ST=some (.slice E.T)
  inf:(Tryz.prog.info? E.T).map (fun i=>(i.zero,i.size,i.bytes))=some (some E.z,E.k,E.by_)
  zc:E.z.cells.size=E.k
  kp:0 < E.k
  len:∀ x,(E.enc x).length=E.k
  one:∀ x u,u ∈ E.enc x → u.oneCell'=true
def ET.fl {α:Type} (E:ET α) (l:List α):List Value:=l.flatMap E.enc
theorem info_of {e k b:Nat} {z:Value} (h:(Tryz.prog.info? e).map (fun i=>(i.zero,i.size,i.bytes))=some (some z,k,b)):∃ i,Tryz.prog.info? e=some i∧i.zero=some z∧i.size=k∧i.bytes=b:=by
  rcases hi:Tryz.prog.info? e with _ | i
  · rw [hi] at h; cases h
  · rw [hi] at h
    simp at h
    exact ⟨i,rfl,h.1,h.2.1,h.2.2⟩
section
variable {α:Type} {E:ET α}
theorem ET.fl_len (ok:ETok E) (l:List α):(E.fl l).length=l.length * E.k:=by
  induction l with
  | nil=>simp [ET.fl]
  | cons x l ih =>
    unfold ET.fl at *
    rw [List.flatMap_cons,List.length_append,ih,ok.len,List.length_cons]
    rw [Nat.succ_mul]; omega
theorem ET.fl_app (l l':List α):E.fl (l ++ l')=E.fl l ++ E.fl l':=by unfold ET.fl; rw [List.flatMap_append]
theorem ET.fl_one (ok:ETok E) (l:List α):∀ u ∈ E.fl l,u.oneCell'=true:=by
  intro u hu
  unfold ET.fl at hu
  obtain ⟨e,_,he⟩:=List.mem_flatMap.1 hu
  exact ok.one e u he
theorem ET.fl_at (ok:ETok E) (l:List α) (j:Nat) (hj:j < l.length) (i:Nat) (u:Value) (hu:(E.enc l[j])[i]?=some u):(E.fl l)[j * E.k + i]?=some u:=by
  induction l generalizing j with
  | nil=>simp at hj
  | cons x l ih =>
    have hi:i < E.k:=by have:=ok.len ((x :: l)[j]); obtain ⟨h1,_⟩:=List.getElem?_eq_some_iff.1 hu; omega
    unfold ET.fl
    rw [List.flatMap_cons]
    cases j with
    | zero =>
      rw [Nat.zero_mul,Nat.zero_add,List.getElem?_append_left (by rw [ok.len]; exact hi)]
      exact hu
    | succ j =>
      have h2:=ih j (by simpa using hj) (by simpa using hu)
      rw [List.getElem?_append_right (by rw [ok.len,Nat.succ_mul]; omega),ok.len]
      have:(j + 1) * E.k + i - E.k=j * E.k + i:=by rw [Nat.succ_mul]; omega
      rw [this]
      exact h2
def KR (E:ET α) (w:World) (v:Value) (l:List α):Prop:=
  (l=[]∧∃ p c,v=.slice p 0 c∧(p=none → c=0)) ∨ ∃ g o cap,v=.slice (some ⟨g,o,none⟩) l.length cap∧∀ j u,(E.fl l)[j]?=some u → w.cell? ⟨g,o + j,none⟩=some u
theorem KR.nil {w:World}:KR E w (.slice none 0 0) []:=Or.inl ⟨rfl,none,0,rfl,fun _=>rfl⟩
theorem KR.form {w:World} {v:Value} {l:List α} (h:KR E w v l):∃ P c,v=.slice P l.length c:=by
  rcases h with ⟨rfl,p,c,rfl,_⟩ | ⟨g,o,cap,rfl,_⟩
  · exact ⟨p,c,rfl⟩
  · exact ⟨_,_,rfl⟩
theorem KR.on {w w':World} {v:Value} {l:List α} (h:KR E w v l) (hb:Below w.heap.size w w'):KR E w' v l:=by
  rcases h with h | ⟨g,o,cap,rfl,hc⟩
  · exact Or.inl h
  · exact Or.inr ⟨g,o,cap,rfl,fun j u hu=>cell_on (hc j u hu) hb⟩
theorem KR.cell (ok:ETok E) {w:World} {v:Value} {l:List α} (h:KR E w v l) {j:Nat} (hj:j < l.length):∃ g o c,v=.slice (some ⟨g,o,none⟩) l.length c∧∀ i u,(E.enc l[j])[i]?=some u → w.cell? ⟨g,o + j * E.k + i,none⟩=some u:=by
  rcases h with ⟨rfl,_⟩ | ⟨g,o,cap,rfl,hc⟩
  · simp at hj
  · refine ⟨g,o,cap,rfl,fun i u hu=>?_⟩
    have:=hc _ u (ET.fl_at ok l j hj i u hu)
    rw [← Nat.add_assoc] at this
    exact this
theorem KR.own {w:World} {base n:Nat} {v:Value} {l:List α} (h:w.ownsRow base E.T E.k v n (E.fl l)) (hn:n=l.length):KR E w v l:=by
  obtain ⟨_,⟨rfl,h0⟩ | ⟨g,cap,cur,rfl,hb,hg,h1,h2,h3,h4⟩⟩:=h
  · exact Or.inl ⟨List.eq_nil_of_length_eq_zero (by omega),none,0,rfl,fun _=>rfl⟩
  · subst hn
    refine Or.inr ⟨g,0,cap,rfl,fun j u hu=>?_⟩
    rw [cell_of_row _ _ _ _ _ _ hg,← Array.getElem?_toList,Nat.zero_add]
    have h5:(cur.toList.take (l.length * E.k))[j]?=some u:=by rw [h4]; exact hu
    obtain ⟨h6,_⟩:=List.getElem?_eq_some_iff.1 h5
    rw [List.length_take] at h6
    rw [List.getElem?_take_of_lt (by omega)] at h5
    exact h5
theorem wpList_app (ok:ETok E) {w:World} {ops:Array Oper} {rest:List Oper} {o:Oper} {a:Act} {Q':Exit → Act → World → Prop} (hg:o.guard=none) (s x:Operand)
    (hop:o.op=Op.call { callee:=Callee.builtin Builtin.append,args:=#[s,x],argTypes:=#[E.ST,E.ST] })
    (base:Nat) (v:Value) (xs:List α) (n:Nat) (hn:n=xs.length) (hs:a.eval s=v) (hown:w.ownsRow base E.T E.k v n (E.fl xs)) (r:Value) (l:List α) (hx:a.eval x=r) (hr:KR E w r l)
    (N:Nat) (hN:N=xs.length + l.length) (hl:xs.length + l.length ≤ maxLen) (hby:(xs.length + l.length) * E.by_ ≤ 140737488355328) (hb:base ≤ w.heap.size)
    (h:∀ v' w',w'.ownsRow base E.T E.k v' N (E.fl (xs ++ l)) → w.grownBy w' v.ownBlock → wpList Tryz.prog ops Q' rest (a.put o.dst v') w') :
    wpList Tryz.prog ops Q' (o :: rest) a w:=by
  subst hn
  subst hN
  obtain ⟨i0,hi,hz0,hz1,hz2⟩:=info_of ok.inf
  rcases hr with ⟨rfl,p,c,rfl,hpc⟩ | ⟨g,oo,cap,rfl,hc⟩
  · cases p with
    | none =>
      obtain rfl:=hpc rfl
      refine wpList_append_own_none hg s x E.ST hop base E.T i0 E.k ok.und hi v xs.length (E.fl xs) hs hown hx ?_
      exact h v w (by rw [List.append_nil]; exact hown) ⟨rfl,rfl,rfl,Nat.le_refl _,fun k _ _=>rfl⟩
    | some ad =>
      refine wpList_append_own w hg s x E.ST hop base E.T i0 E.z E.k E.by_ ok.und hi hz0 hz1 hz2 ok.zc ok.kp v xs.length (E.fl xs) hs hown ad 0 c [] hx (by simp) (fun j u hu=>by simp at hu) (fun u hu=>by cases hu) (by simpa using hl) (by simpa using hby) hb ?_
      intro v' w' ho hgw _
      exact h v' w' (by simpa using ho) hgw
  · refine wpList_append_own w hg s x E.ST hop base E.T i0 E.z E.k E.by_ ok.und hi hz0 hz1 hz2 ok.zc ok.kp v xs.length (E.fl xs) hs hown ⟨g,oo,none⟩ l.length cap (E.fl l) hx (ET.fl_len ok l) ?_ (ET.fl_one ok l) hl hby hb ?_
    · intro j u hj
      rw [Lib.add_plain]
      exact hc j u hj
    · intro v' w' ho hgw _
      refine h v' w' ?_ hgw
      rw [ET.fl_app]; exact ho
end
end Go.Proofs.YtbgbmfmgdgalbaaGreatDoor
namespace Go.Proofs.YtbgbmfmgdgalbaaGreatDoor
open Go.RowKit
set_option linter.unusedVariables false
set_option linter.unusedSimpArgs false
theorem r_ba_ne {a b:ByteArray} (h:a ≠ b):a.data.toList ≠ b.data.toList:=fun h2=>h (by
  cases a with | mk x=>cases b with | mk y=>exact congrArg _ (Array.toList_inj.1 h2))
end Go.Proofs.YtbgbmfmgdgalbaaGreatDoor
namespace Go.Proofs.YtbgbmfmgdgalbaaGreatDoor
open Go.RowKit
set_option linter.unusedVariables false
set_option linter.unusedSimpArgs false
section
variable {α:Type} {E:ET α}
end
theorem pickM_le (p:List Int) (i n:Nat):pickM p i n ≤ n:=by
  unfold pickM
  split
  · exact Nat.zero_le _
  · rename_i x hx
    split
    · exact Nat.zero_le _
    · have h1:=Int.emod_lt_of_pos x (by omega:(0:Int) < (n:Int) + 1)
      have h2:=Int.emod_nonneg x (by omega:((n:Int) + 1) ≠ 0)
      omega
end Go.Proofs.YtbgbmfmgdgalbaaGreatDoor
namespace Go.Proofs.YtbgbmfmgdgalbaaGreatDoor.P
open Go.RowKit
set_option linter.unusedVariables false
def bcells (l:List UInt8):List Value:=l.map fun b=>Value.int .u8 (b.toNat:Int)
theorem bcells_str (l:List UInt8) (s:ByteArray):bcells (l ++ s.data.toList)=bcells l ++ Lib.strCells s:=by unfold bcells Lib.strCells; rw [List.map_append]
theorem info5:(Tryz.prog.info? 5).map (fun i=>(i.zero,i.size,i.bytes))=some (some (.int .u8 0),1,1):=by kernel_rfl
def mcells (b:Nat) (v:Value) (W:Int):Array Value:=#[.pointer (some ⟨b,0,none⟩),v]
def MakerAt (B b:Nat) (W:Int) (l:List UInt8) (w:World):Prop:=
  B ≤ b∧∃ v,w.heap[b]?=some (.cells (mcells b v W) 131 (0,0))∧w.ownsRow B 5 1 v l.length (bcells l)∧v.ownBlock ≠ some b
theorem sizeB:(Tryz.prog.info? 131).map (·.size)=some 2:=by kernel_rfl
theorem cell_heap {w:World} {b:Nat} {cs:Array Value} {T:TypeId} {fr:Nat × Nat} (hb:w.heap[b]?=some (.cells cs T fr)) (j:Nat):w.cell? ⟨b,j,none⟩=cs[j]?:=by
  simp [World.cell?,hb]
set_option maxHeartbeats 1000000 in
set_option maxRecDepth 100000 in
theorem copyCheck_used (b:Nat) (w:World) (h0:w.cell? ⟨b,0,none⟩=some (.pointer (some ⟨b,0,none⟩))) :
    Calls Tryz.prog 119 #[.pointer (some ⟨b,0,none⟩)] w fun e w'=>e=.returned (.tuple #[])∧w'=w:=by
  obtain ⟨j,hj,_⟩:=Option.map_eq_some_iff.1 sizeB
  go_enter Tryz.func119,Tryz.ntmps119
  go_wp2
  rw [Lib.run_neq_ptr_same w _ Tryz.underlying128 hj]
  go_wp2
  go_end0
  exact ⟨rfl,rfl⟩
theorem maker_put {B b:Nat} {W:Int} {v v':Value} {l:List UInt8} {w:World} (hB:B ≤ b) (hb:w.heap[b]?=some (.cells (mcells b v W) 131 (0,0))) (hown:w.ownsRow B 5 1 v' l.length (bcells l)) :
    MakerAt B b W l (w.setCell ⟨b,1,none⟩ v'):=by
  have hne:v'.ownBlock ≠ some b:=by
    intro e
    rcases hown.2 with ⟨h,_⟩ | ⟨g,cap,cur,h,_,hg,_⟩
    · subst h; simp [Value.ownBlock] at e
    · subst h
      simp [Value.ownBlock] at e
      subst e
      rw [hb] at hg
      injection hg with hg
      injection hg with _ h2
      exact absurd h2 (by decide)
  refine ⟨hB,v',?_,?_,hne⟩
  · simp [World.setCell,Array.getElem?_modify,hb,mcells]
  · refine hown.kept (row:=some b) ⟨rfl,rfl,rfl,by simp [World.setCell],fun k _ hk=>Below.heap_setCell _ _ _ _ (fun e=>hk (by simp [e]))⟩ ?_
    exact Or.inr hne
set_option maxHeartbeats 2000000 in
set_option maxRecDepth 100000 in
theorem writeString_any (B b:Nat) (W:Int) (l:List UInt8) (s:ByteArray) (w:World) (h:MakerAt B b W l w) (hlen:l.length + s.size ≤ 140737488355328) (hBw:B ≤ w.heap.size) :
    Calls Tryz.prog 76 #[.pointer (some ⟨b,0,none⟩),.string s] w fun e w'=>e=.returned (.tuple #[.int .i64 s.size,.nilIface])∧(MakerAt B b W (l ++ s.data.toList) w'∧Below B w w'):=by
  obtain ⟨i0,hi,hz0,hz1,hz2⟩:=info_parts info5
  obtain ⟨hB,v,hbk,hown,hne⟩:=h
  have c0:w.cell? ⟨b,0,none⟩=some (.pointer (some ⟨b,0,none⟩)):=by rw [cell_heap hbk]; rfl
  have c1:w.cell? ⟨b,1,none⟩=some v:=by rw [cell_heap hbk]; rfl
  go_enter Tryz.func76,Tryz.ntmps76
  go_wp2_with fail
  refine (copyCheck_used b w c0).mono ?_
  rintro e w1 ⟨rfl,hw1⟩
  subst w1
  go_wp2_with (at_builtin; go_must (refine Lib.wpList_append_own_string _ rfl _ _ 129 9 rfl B 5 i0 Tryz.underlying129 Tryz.underlying9 hi hz0 hz1 hz2 _ _ _ rfl hown s rfl ?c3 ?c4 ?c5 ?_))
  case c3=>unfold maxLen; omega
  case c4=>omega
  case c5=>omega
  intro v' w2 hown' hgrow _
  have hb2:w2.heap[b]?=some (.cells (mcells b v W) 131 (0,0)):=by
    rw [hgrow.block b (row_lt hbk) (fun e=>hne e.symm)]
    exact hbk
  have d0:w2.cell? ⟨b,0,none⟩=some (.pointer (some ⟨b,0,none⟩)):=by rw [cell_heap hb2]; rfl
  have d1:w2.cell? ⟨b,1,none⟩=some v:=by rw [cell_heap hb2]; rfl
  have f1:w2.frozen? ⟨b,1,none⟩=false:=Lib.frozen_of_heap hb2 1
  obtain ⟨ao,n',cap,rfl⟩:∃ ao n' cap,v'=.slice ao n' cap:=by
    obtain ⟨p,c,e⟩:=own_form hown'
    exact ⟨_,_,_,e⟩
  have HO2:Hid (w2.ownsRow B 5 1 (.slice ao n' cap) (l ++ s.data.toList).length (bcells (l ++ s.data.toList))):=by
    rw [bcells_str,List.length_append,list_len]; exact hown'
  clear hown'
  go_wp2
  go_ret2
  refine ⟨rfl,maker_put hB hb2 HO2.out,?_⟩
  exact ((Below.refl B w).grown hgrow hBw (fun k hk=>(hown.lt k hk).1)).setCell (p:=⟨b,1,none⟩) hB _
end Go.Proofs.YtbgbmfmgdgalbaaGreatDoor.P
