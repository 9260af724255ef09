import Derived.Test.YtlheilkofibogaaGreatProg
import Derived.WalkKit
import Derived.WalkSpells
import Derived.WalkLawsBesides
import Derived.Handy
import Derived.Laws.BytesArg
import Derived.Laws.IdiomStrings
import Derived.Lib.AppendStr
import Derived.Deep.QuietTactic
import Derived.BigQuiet
import Derived.RangeFuncOwn
namespace Go.Proofs.YtlheilkofibogaaGreat
open Go.RowKit
set_option linter.unusedVariables false

theorem below_dn {B : Nat} {a w : World} (h : Below B a w) (n : Nat) : Below B a (w.drewN n) := h.trans ⟨rfl, rfl, rfl, Nat.le_refl _, fun _ _ => rfl⟩
theorem at_list (s : ByteArray) (k : Nat) (h : k < s.size) : s.data.toList[k]? = some s[k] := by
  rw [List.getElem?_eq_getElem (by simpa using h)]; rfl
theorem list_len (s : ByteArray) : s.data.toList.length = s.size := by show _ = s.data.size; simp
theorem drop_more (l : List UInt8) (i : Nat) (b : UInt8) (h : l[i]? = some b) : l.drop i = b :: l.drop (i + 1) := by
  obtain ⟨hi, e⟩ := List.getElem?_eq_some_iff.1 h
  rw [List.drop_eq_getElem_cons hi, e]
theorem drop_at (s : ByteArray) (k : Nat) (h : k < s.size) : s.data.toList.drop k = s[k] :: s.data.toList.drop (k + 1) := drop_more _ _ _ (at_list s k h)
theorem ext_any (s : ByteArray) (i j : Nat) : (s.extract i j).data.toList = (s.data.toList.drop i).take (j - i) := by
  rw [ByteArray.data_extract]
  simp [Array.toList_extract, List.extract_eq_take_drop]
theorem ext_size (s : ByteArray) (i j : Nat) (h : j ≤ s.size) : (s.extract i j).size = j - i := by
  rw [ByteArray.size_extract]; omega
theorem str_same {a b : ByteArray} (h : a.data.toList = b.data.toList) : (a.toList == b.toList) = true := by
  rw [ByteArray.toList_eq, ByteArray.toList_eq, h]; simp
theorem str_other {a b : ByteArray} (h : a.data.toList ≠ b.data.toList) : (a.toList == b.toList) = false := by
  rw [ByteArray.toList_eq, ByteArray.toList_eq]; simpa using h
theorem str_empty {s : ByteArray} (h : s.size = 0) : s.toList.isEmpty = true := by
  rw [ByteArray.toList_eq, List.isEmpty_iff]
  exact List.length_eq_zero_iff.1 (by rw [list_len]; exact h)
theorem str_full {s : ByteArray} (h : ¬ s.size = 0) : s.toList.isEmpty = false := by
  rw [ByteArray.toList_eq]
  cases hh : s.data.toList with
  | nil => exact absurd (by rw [← list_len, hh]; rfl) h
  | cons a t => rfl
theorem ret_int {k : IntKind} {a b : Int} (h : a = b) : Ending.returned (.int k a) = .returned (.int k b) := by rw [h]
theorem wrap_b (b : UInt8) : wrap64 (b.toNat : Int) = (b.toNat : Int) := by have := b.toNat_lt; unfold wrap64; omega
def strB (l : List UInt8) : ByteArray := ⟨l.toArray⟩
theorem strB_list (l : List UInt8) : (strB l).data.toList = l := by unfold strB; simp
theorem strB_size (l : List UInt8) : (strB l).size = l.length := by rw [← list_len, strB_list]
theorem strB_of (s : ByteArray) : strB s.data.toList = s := rfl
theorem row_lt {w : World} {b : Nat} {o : Obj} (h : w.heap[b]? = some o) : b < w.heap.size := by
  rcases Nat.lt_or_ge b w.heap.size with h' | h'
  · exact h'
  · rw [Array.getElem?_eq_none h'] at h; cases h
theorem own_keep {w w' : World} {base e size : Nat} {v : Value} {n : Nat} {xs : List Value} (h : w.ownsRow base e size v n xs) (hk : ∀ k, base ≤ k → k < w.heap.size → w'.heap[k]? = w.heap[k]?) : w'.ownsRow base e size v n xs := by
  refine ⟨h.1, ?_⟩
  rcases h.2 with h1 | ⟨g, cap, cur, hv, hb, hg, r⟩
  · exact Or.inl h1
  · exact Or.inr ⟨g, cap, cur, hv, hb, by rw [hk g hb (row_lt hg)]; exact hg, r⟩
theorem own_form {w : World} {base e size : Nat} {v : Value} {n : Nat} {xs : List Value} (h : w.ownsRow base e size v n xs) : ∃ p c, v = .slice p n c := by
  rcases h.2 with ⟨e, hn⟩ | ⟨gg, cap', cur, e, _⟩
  · exact ⟨none, 0, by rw [e, hn]⟩
  · exact ⟨_, _, e⟩
end Go.Proofs.YtlheilkofibogaaGreat
namespace Go.Proofs.YtlheilkofibogaaGreat
open Go.RowKit
set_option linter.unusedVariables false
structure Only (w w' : World) (g : Nat) : Prop where
  os : w'.os = w.os
  tape : w'.tape = w.tape
  output : w'.output = w.output
  size : w'.heap.size = w.heap.size
  other : ∀ k, k ≠ g → w'.heap[k]? = w.heap[k]?
theorem Only.refl (w : World) (g : Nat) : Only w w g := ⟨rfl, rfl, rfl, rfl, fun _ _ => rfl⟩
theorem Only.trans {w w1 w2 : World} {g : Nat} (h : Only w w1 g) (h' : Only w1 w2 g) : Only w w2 g :=
  ⟨h'.os.trans h.os, h'.tape.trans h.tape, h'.output.trans h.output, h'.size.trans h.size, fun k hk => (h'.other k hk).trans (h.other k hk)⟩
theorem Only.below {w w' : World} {g B : Nat} (h : Only w w' g) (hg : B ≤ g) : Below B w w' :=
  ⟨h.os, h.tape, h.output, by rw [h.size]; exact Nat.le_refl _, fun k hk => h.other k (by omega)⟩
theorem Only.set {w w' : World} {g : Nat} (h : Only w w' g) (i : Nat) (v : Value) : Only w (w'.setCell ⟨g, i, none⟩ v) g :=
  h.trans ⟨rfl, rfl, rfl, by simp, fun k hk => heap_setCell_other _ _ _ _ hk⟩
theorem one_alloc (w : World) (A : Obj) : (w.alloc A).heap[w.heap.size]? = some A := by
  show (w.heap.push A)[w.heap.size]? = some A
  rw [Array.getElem?_push, if_pos rfl]
theorem keep_row {w w' : World} {g : Nat} {o : Obj} (h : w.heap[g]? = some o) (hb : Below w.heap.size w w') : w'.heap[g]? = some o := (hb.block g (row_lt h)).trans h
theorem bel_to {B : Nat} {w w1 w2 : World} (h1 : Below B w w1) (h2 : Below w1.heap.size w1 w2) (hB : B ≤ w.heap.size) : Below B w w2 := h1.trans (h2.mono (Nat.le_trans hB h1.size))
theorem lt_of_cell {w : World} {a : Addr} {v : Value} (h : w.cell? a = some v) : a.block < w.heap.size := by
  obtain ⟨o, ho, _⟩ := cells_of_cell h; exact row_lt ho
theorem cell_on {w w' : World} {a : Addr} {v : Value} (h : w.cell? a = some v) (hb : Below w.heap.size w w') : w'.cell? a = some v :=
  (hb.cell (p := a) (lt_of_cell h)).trans h
theorem dec_t {p : Prop} [Decidable p] (h : p) : decide p = true := by simpa using h
theorem dec_f {p : Prop} [Decidable p] (h : ¬ p) : decide p = false := by simpa using h
end Go.Proofs.YtlheilkofibogaaGreat
namespace Go.Proofs.YtlheilkofibogaaGreat
open Go.RowKit
set_option linter.unusedVariables false
theorem byl_irrefl : ∀ x : List UInt8, Op.bytesLess x x = false
  | [] => rfl
  | a :: x => by simp [Op.bytesLess, byl_irrefl x]
theorem byl_trans : ∀ x y z : List UInt8, Op.bytesLess x y = true → Op.bytesLess y z = true → Op.bytesLess x z = true
  | _, [], _, h, _ => by simp [Op.bytesLess] at h
  | _, _ :: _, [], _, h => by simp [Op.bytesLess] at h
  | [], _ :: _, _ :: _, _, _ => by simp [Op.bytesLess]
  | a :: x, b :: y, c :: z, h1, h2 => by
    simp only [Op.bytesLess, Bool.or_eq_true, decide_eq_true_eq, Bool.and_eq_true, beq_iff_eq] at h1 h2 ⊢
    rcases h1 with h1 | ⟨rfl, h1⟩ <;> rcases h2 with h2 | ⟨rfl, h2⟩
    · exact Or.inl (UInt8.lt_trans h1 h2)
    · exact Or.inl h1
    · exact Or.inl h2
    · exact Or.inr ⟨rfl, byl_trans x y z h1 h2⟩
theorem byl_tri : ∀ x y : List UInt8, Op.bytesLess x y = false → Op.bytesLess y x = false → x = y
  | [], [], _, _ => rfl
  | [], _ :: _, h, _ => by simp [Op.bytesLess] at h
  | _ :: _, [], _, h => by simp [Op.bytesLess] at h
  | a :: x, b :: y, h1, h2 => by
    simp only [Op.bytesLess, Bool.or_eq_false_iff, decide_eq_false_iff_not, Bool.and_eq_false_iff, beq_eq_false_iff_ne] at h1 h2
    have hab : a = b := UInt8.toNat_inj.1 (by have := h1.1; have := h2.1; rw [UInt8.lt_iff_toNat_lt] at *; omega)
    subst hab
    rw [byl_tri x y (by rcases h1.2 with h | h; exact absurd rfl h; exact h) (by rcases h2.2 with h | h; exact absurd rfl h; exact h)]
def ltB (a b : ByteArray) : Bool := Op.bytesLess a.toList b.toList
theorem ltB_irr (a : ByteArray) : ltB a a = false := byl_irrefl _
theorem ltB_trans {a b c : ByteArray} (h1 : ltB a b = true) (h2 : ltB b c = true) : ltB a c = true := byl_trans _ _ _ h1 h2
theorem ltB_tri {a b : ByteArray} (h1 : ltB a b = false) (h2 : ltB b a = false) : a = b := by
  have := byl_tri _ _ h1 h2
  rw [ByteArray.toList_eq, ByteArray.toList_eq] at this
  exact ByteArray.ext (Array.toList_inj.1 this)
theorem ltB_asym {a b : ByteArray} (h : ltB a b = true) : ltB b a = false := by
  rcases h2 : ltB b a with _ | _
  · rfl
  · have := ltB_trans h h2; rw [ltB_irr] at this; cases this
/-- A file: its bytes, how many are safe. -/
structure Fi where
  d : ByteArray
  s : Nat
abbrev Sl := ByteArray × Int
/-- A change of the directory. -/
structure Ch where
  n : ByteArray
  t : ByteArray
  f : Int
/-- The document's file system. -/
structure Fs where
  down : Bool
  steps : Nat
  files : List Fi
  dir : List Sl
  sure : List Sl
  chg : List Ch
  fails : List (Int × Int)
  crash : Int
  picks : List Int
def okC (c : Nat) : Bool := (decide (97 ≤ c) && decide (c ≤ 122)) || (decide (65 ≤ c) && decide (c ≤ 90)) || (decide (48 ≤ c) && decide (c ≤ 57)) || decide (c = 46) || decide (c = 45) || decide (c = 95)
def namedM (s : ByteArray) : Bool := decide (0 < s.size) && decide (s.size ≤ 64) && !(s.data.toList == [46]) && !(s.data.toList == [46, 46]) && s.data.toList.all (fun c => okC c.toNat)
def findM (d : List Sl) (n : ByteArray) : Int := ((d.find? fun x => decide (x.1 = n)).map (·.2)).getD (-1)
/-- bound's loop. -/
def boundL (n : ByteArray) (f : Int) : Bool → List Sl → Bool × List Sl
  | done, [] => (done, [])
  | done, x :: d =>
    let now := !done && ltB n x.1
    let r := boundL n f (done || now) d
    (r.1, (if now then [(n, f)] else []) ++ (if x.1 = n then [] else [x]) ++ r.2)
def boundM (d : List Sl) (n : ByteArray) (f : Int) : List Sl :=
  let r := boundL n f (decide (f < 0)) d
  r.2 ++ (if r.1 then [] else [(n, f)])
def afterM (d : List Sl) (c : Ch) : List Sl := if c.t.size = 0 then boundM d c.n c.f else boundM (boundM d c.n (-1)) c.t c.f
def changeM (s : Fs) (c : Ch) : Fs := { s with dir := afterM s.dir c, chg := s.chg ++ [c] }
def pickM (p : List Int) (i : Nat) (n : Nat) : Nat := match p[i]? with
  | none => 0
  | some x => if x < 0 then 0 else (x % ((n : Int) + 1)).toNat
def cutF (x : Fi) (k : Nat) : Fi := ⟨x.d.extract 0 (x.s + k), x.s + k⟩
def downF (p : List Int) : Nat → List Fi → List Fi
  | _, [] => []
  | i, x :: l => cutF x (pickM p (i + 1) (x.d.size - x.s)) :: downF p (i + 1) l
def downM (s : Fs) (p : List Int) : Fs :=
  let d := (s.chg.take (pickM p 0 s.chg.length)).foldl afterM s.sure
  ⟨true, s.steps, downF p 0 s.files, d, d, [], [], 0, []⟩
def failM (fails : List (Int × Int)) (n : Nat) : Option Int := (fails.reverse.find? fun x => x.1 == (n : Int)).map (·.2)
/-- A step begins: the state, the error, the part. -/
def stepM (s0 : Fs) : Fs × Int × Int :=
  let s := { s0 with steps := s0.steps + 1 }
  if s.crash = (s.steps : Int) then (downM s s.picks, 203, 0) else
  match failM s.fails s.steps with
  | some p => (s, 200, p)
  | none => (s, 0, 0)
def hasM (s : Fs) (n : ByteArray) : Int := if s.down then 203 else if namedM n then (if findM s.dir n < 0 then 201 else 0) else 202
def createM (s : Fs) (n : ByteArray) : Fs × Int :=
  if s.down then (s, 203) else if namedM n then
    (if findM s.dir n < 0 ∧ 64 ≤ s.dir.length then (s, 3) else
      let r := stepM s
      if r.2.1 = 0 then (changeM { r.1 with files := r.1.files ++ [⟨⟨#[]⟩, 0⟩] } ⟨n, ⟨#[]⟩, (r.1.files.length : Int)⟩, 0) else (r.1, r.2.1))
  else (s, 202)
def appendM (s : Fs) (n dat : ByteArray) : Fs × Int :=
  if hasM s n = 0 then
    let i := (findM s.dir n).toNat
    let x := s.files.getD i ⟨⟨#[]⟩, 0⟩
    if 1073741824 < x.d.size + dat.size then (s, 2) else
      let r := stepM s
      if r.2.1 = 203 then (r.1, 203) else
        let m := if r.2.1 = 200 then dat.extract 0 (max 0 (min r.2.2 (dat.size : Int))).toNat else dat
        ({ r.1 with files := r.1.files.set i ⟨x.d ++ m, x.s⟩ }, r.2.1)
  else (s, hasM s n)
def syncM (s : Fs) (n : ByteArray) : Fs × Int :=
  if hasM s n = 0 then
    let i := (findM s.dir n).toNat
    let r := stepM s
    if r.2.1 = 0 then
      let x := r.1.files.getD i ⟨⟨#[]⟩, 0⟩
      ({ r.1 with files := r.1.files.set i ⟨x.d, x.d.size⟩ }, 0)
    else (r.1, r.2.1)
  else (s, hasM s n)
def renameM (s : Fs) (n t : ByteArray) : Fs × Int :=
  if !s.down && !namedM t then (s, 202) else if hasM s n = 0 then
    let r := stepM s
    if r.2.1 = 0 then (changeM r.1 ⟨n, t, findM s.dir n⟩, 0) else (r.1, r.2.1)
  else (s, hasM s n)
def syncDirM (s : Fs) : Fs × Int :=
  if s.down then (s, 203) else
    let r := stepM s
    if r.2.1 = 0 then ({ r.1 with sure := r.1.dir, chg := [] }, 0) else (r.1, r.2.1)
def removeM (s : Fs) (n : ByteArray) : Fs × Int :=
  if hasM s n = 0 then
    let r := stepM s
    if r.2.1 = 0 then (changeM r.1 ⟨n, ⟨#[]⟩, -1⟩, 0) else (r.1, r.2.1)
  else (s, hasM s n)
def readM (s : Fs) (n : ByteArray) : ByteArray × Int := if hasM s n = 0 then ((s.files.getD (findM s.dir n).toNat ⟨⟨#[]⟩, 0⟩).d, 0) else (⟨#[]⟩, hasM s n)
def listM (s : Fs) : List ByteArray × Int := if s.down then ([], 203) else (s.dir.map (·.1), 0)
def failsM (s : Fs) (n p : Int) : Fs × Int := if s.down then (s, 203) else if n < 1 ∨ 1099511627776 < n then (s, 1) else ({ s with fails := s.fails ++ [((s.steps : Int) + n, p)] }, 0)
def crashM (s : Fs) (n : Int) (p : List Int) : Fs × Int := if s.down then (s, 203) else if n < 0 ∨ 1099511627776 < n then (s, 1) else if n = 0 then (downM s p, 0) else ({ s with crash := (s.steps : Int) + n, picks := p }, 0)
def startM (s : Fs) : Fs × Int := if s.down then ({ s with down := false }, 0) else (s, 1)
def nowM (s : Fs) : List (ByteArray × ByteArray) := s.dir.map fun x => (x.1, (s.files.getD x.2.toNat ⟨⟨#[]⟩, 0⟩).d)
def safeM (s : Fs) : List (ByteArray × ByteArray) := s.sure.map fun x => (x.1, let f := s.files.getD x.2.toNat ⟨⟨#[]⟩, 0⟩; f.d.extract 0 f.s)
def newM : Fs := ⟨false, 0, [], [], [], [], [], 0, []⟩
end Go.Proofs.YtlheilkofibogaaGreat
