import Derived.Test.YtgiicfgekicfcaaGreatDoorBkC
namespace Go.Proofs.Vi
open Go.Lib
set_option linter.unusedVariables false
set_option linter.unusedSimpArgs false
/-- a text on one line. -/
def onel (t : By) : By := t.map (fun c => if c = 13 ∨ c = 10 then 32 else c)
/-- a reply that is no list: its bytes in the third form or the second. -/
def leafX (p3 : Bool) (kind : Int) (text : By) (n : Int) : Option By :=
  if kind = 1 then some (43 :: (onel text ++ [13, 10])) else if kind = 2 then some (45 :: (onel text ++ [13, 10])) else if kind = 3 then some (58 :: (itoa n ++ [13, 10]))
  else if kind = 4 then some (36 :: (itoa text.length ++ [13, 10] ++ (text ++ [13, 10])))
  else if kind = 0 then some (if p3 then [95, 13, 10] else [36, 45, 49, 13, 10]) else if kind = 9 then some (if p3 then [95, 13, 10] else [42, 45, 49, 13, 10])
  else if kind = 11 then some (if p3 then [35, if n ≠ 0 then 116 else 102, 13, 10] else [58, if n ≠ 0 then 49 else 48, 13, 10]) else none
def markX (p3 : Bool) (kind : Int) : UInt8 := if p3 then (if kind = 6 then 37 else if kind = 7 then 126 else if kind = 8 then 62 else 42) else 42
def cntX (p3 : Bool) (kind : Int) (len : Nat) : Nat := if p3 = true ∧ kind = 6 then len / 2 else len
def headX (p3 : Bool) (kind : Int) (len : Nat) : By := markX p3 kind :: (itoa (cntX p3 kind len : Nat) ++ [13, 10])
/-- a list that can be written. -/
def okL (kind : Int) (len dep : Nat) : Bool := lk kind && (decide (kind ≠ 6) || decide (len % 2 = 0)) && decide (dep < 32)
def encAll {α : Type} (f : α → Option By) : List α → Option By
  | [] => some []
  | x :: l => match f x with
    | none => none
    | some a => match encAll f l with
      | none => none
      | some b => some (a ++ b)
/-- a reply's bytes, as Encode writes them; none where it can't be written. -/
def encX (p3 : Bool) : (k : Nat) → Nat → Rn (Rp k) → Option By
  | 0, dep, t => match leafX p3 t.kind t.text t.n with
    | some a => some a
    | none => if okL t.kind 0 dep = true then some (headX p3 t.kind 0) else none
  | k + 1, dep, t => match leafX p3 t.kind t.text t.n with
    | some a => some a
    | none => if okL t.kind (List.length t.list) dep = true then (match encAll (α := Rn (Rp k)) (encX p3 k (dep + 1)) t.list with
        | none => none
        | some b => some (headX p3 t.kind (List.length t.list) ++ b)) else none
theorem encAll_app {α : Type} (f : α → Option By) (l l' : List α) : encAll f (l ++ l') = match encAll f l with
    | none => none
    | some a => match encAll f l' with
      | none => none
      | some b => some (a ++ b) := by
  induction l with
  | nil => cases h : encAll f l' <;> simp [encAll, h]
  | cons x l ih =>
    simp only [List.cons_append, encAll, ih]
    cases f x with
    | none => rfl
    | some a =>
      cases encAll f l with
      | none => rfl
      | some b =>
        cases encAll f l' with
        | none => rfl
        | some c => simp
/-- a list's replies one by one: the next is written. -/
theorem encAll_step {α : Type} (f : α → Option By) (l : List α) (i : Nat) (hi : i < l.length) (a b : By) (h : encAll f (l.take i) = some a) (hf : f l[i] = some b) : encAll f (l.take (i + 1)) = some (a ++ b) := by
  rw [List.take_add_one, List.getElem?_eq_getElem hi, encAll_app, h]
  simp [encAll, hf]
/-- the next can't be written. -/
theorem encAll_none {α : Type} (f : α → Option By) (l : List α) (i : Nat) (hi : i < l.length) (hf : f l[i] = none) : encAll f l = none := by
  have e : l = l.take i ++ (l[i] :: l.drop (i + 1)) := by rw [List.getElem_cons_drop, List.take_append_drop]
  rw [e, encAll_app]
  cases encAll f (l.take i) with
  | none => rfl
  | some a => simp [encAll, hf]
theorem onel_len (t : By) : (onel t).length = t.length := by unfold onel; simp
theorem onel_plain {t : By} (h : Plain t) : onel t = t := by
  unfold onel
  refine (List.map_congr_left fun c hc => ?_).trans (List.map_id _)
  have := h c hc
  rw [if_neg (by rintro (e | e) <;> simp [e] at this)]; rfl
theorem leaf_len {p3 : Bool} {kind n : Int} {text a : By} (hn : -9223372036854775808 ≤ n ∧ n ≤ 9223372036854775807) (ht : text.length ≤ 67108864) (h : leafX p3 kind text n = some a) : a.length ≤ 30 + text.length := by
  have h1 := itoa_len20 n hn.1 hn.2
  have h2 := itoa_len20 (text.length : Int) (by omega) (by omega)
  unfold leafX at h
  repeat' split at h
  all_goals first | (injection h with h; subst h; simp [onel_len]; try omega) | cases h
end Go.Proofs.Vi
