import Derived.Test.YtpckadpnedfkkaaDoorGMath
namespace Go.Proofs.Gb
set_option linter.unusedVariables false

/-- a byte with a backslash ahead, and more than the backslash is there. -/
def esc (l : List UInt8) : Bool := l.getD 0 0 == 92 && decide (1 < l.length)
def isR (l : List UInt8) : Bool := decide (2 < l.length) && !(l.getD 0 0 == 92) && l.getD 1 0 == 45
def firstB (l : List UInt8) : UInt8 := if esc l then l.getD 1 0 else l.getD 0 0
def firstN (l : List UInt8) : Nat := if esc l then 2 else 1
def memN (l : List UInt8) : Nat := if isR l then 3 else firstN l
def rngF (a c b : UInt8) : Bool := decide (min a.toNat c.toNat ≤ b.toNat) && decide (b.toNat ≤ max a.toNat c.toNat)
def memF (l : List UInt8) : UInt8 → Bool := if isR l then rngF (l.getD 0 0) (l.getD 2 0) else fun b => b == firstB l
def orF (g h : UInt8 → Bool) : UInt8 → Bool := fun b => g b || h b
def notF (g : UInt8 → Bool) : UInt8 → Bool := fun b => !g b
def membs : Nat → List UInt8 → (UInt8 → Bool) → (UInt8 → Bool) × List UInt8
  | 0, l, g => (g, l)
  | n + 1, l, g => if l.isEmpty || l.getD 0 0 == 93 then (g, l) else membs n (l.drop (memN l)) (orF g (memF l))
def over (l : List UInt8) : Bool := !l.isEmpty && l.getD 0 0 == 94
/-- a set, from behind its beginning: what it stands for, and what is left. -/
def setF (l : List UInt8) : (UInt8 → Bool) × List UInt8 :=
  if over l then (notF (membs l.length (l.drop 1) (fun _ => false)).1, (membs l.length (l.drop 1) (fun _ => false)).2.drop 1)
  else ((membs l.length l (fun _ => false)).1, (membs l.length l (fun _ => false)).2.drop 1)
def stepF (l : List UInt8) : St × List UInt8 :=
  if l.getD 0 0 = 42 then (starSt, l.drop 1)
  else if l.getD 0 0 = 63 then (qSt, l.drop 1)
  else if l.getD 0 0 = 91 then (⟨false, true, 0, (setF (l.drop 1)).1⟩, (setF (l.drop 1)).2)
  else (oneSt (firstB l), l.drop (firstN l))
def parseN : Nat → List UInt8 → List St
  | 0, _ => []
  | n + 1, l => if l.isEmpty then [] else (stepF l).1 :: parseN n (stepF l).2
def parse (l : List UInt8) : List St := parseN l.length l
theorem firstN_pos (l : List UInt8) : 1 ≤ firstN l := by unfold firstN; split <;> omega
theorem memN_pos (l : List UInt8) : 1 ≤ memN l := by unfold memN; split; omega; exact firstN_pos l
theorem membs_stop (n : Nat) (l : List UInt8) (g : UInt8 → Bool) (h : (l.isEmpty || l.getD 0 0 == 93) = true) : membs n l g = (g, l) := by
  cases n with
  | zero => rfl
  | succ n => simp only [membs]; rw [if_pos h]
theorem membs_go (n : Nat) (l : List UInt8) (g : UInt8 → Bool) (h : (l.isEmpty || l.getD 0 0 == 93) = false) (hn : l.length ≤ n) : ∃ m, n = m + 1 ∧ (l.drop (memN l)).length ≤ m ∧ membs n l g = membs m (l.drop (memN l)) (orF g (memF l)) := by
  cases n with
  | zero =>
    have : l = [] := List.length_eq_zero_iff.1 (by omega)
    subst this; simp at h
  | succ n =>
    refine ⟨n, rfl, ?_, ?_⟩
    · have h1 := memN_pos l
      rw [List.length_drop]
      have : l ≠ [] := by intro e; subst e; simp at h
      have := List.length_pos_iff.2 this
      omega
    · simp only [membs]; rw [if_neg (by rw [h]; decide)]
theorem membs_len (n : Nat) (l : List UInt8) (g : UInt8 → Bool) : (membs n l g).2.length ≤ l.length := by
  induction n generalizing l g with
  | zero => exact Nat.le_refl _
  | succ n ih =>
    simp only [membs]
    split
    · exact Nat.le_refl _
    · exact Nat.le_trans (ih _ _) (by rw [List.length_drop]; omega)
theorem setF_len (l : List UInt8) : (setF l).2.length ≤ l.length := by
  unfold setF
  split
  · have := membs_len l.length (l.drop 1) (fun _ => false)
    simp only [List.length_drop] at this ⊢; omega
  · have := membs_len l.length l (fun _ => false)
    simp only [List.length_drop] at this ⊢; omega
theorem stepF_len {l : List UInt8} (h : l ≠ []) : (stepF l).2.length < l.length := by
  have hp := List.length_pos_iff.2 h
  have h1 := firstN_pos l
  unfold stepF
  split
  · simp; omega
  · split
    · simp; omega
    · split
      · have := setF_len (l.drop 1)
        simp only [List.length_drop] at this ⊢; omega
      · simp only [List.length_drop]; omega
theorem parseN_two (n m : Nat) (l : List UInt8) (h : l.length ≤ n) (h' : l.length ≤ m) : parseN n l = parseN m l := by
  induction n generalizing m l with
  | zero =>
    have : l = [] := List.length_eq_zero_iff.1 (by omega)
    subst this
    cases m <;> rfl
  | succ n ih =>
    by_cases hl : l = []
    · subst hl; cases m <;> rfl
    · have hz := stepF_len hl
      have hp := List.length_pos_iff.2 hl
      cases m with
      | zero => omega
      | succ m =>
        simp only [parseN]
        rw [ih m (stepF l).2 (by omega) (by omega)]
theorem parse_nil : parse [] = [] := rfl
theorem parse_cons {l : List UInt8} (h : l ≠ []) : parse l = (stepF l).1 :: parse (stepF l).2 := by
  have hz := stepF_len h
  have hp := List.length_pos_iff.2 h
  obtain ⟨m, hm⟩ : ∃ m, l.length = m + 1 := ⟨l.length - 1, by omega⟩
  unfold parse
  rw [hm]
  simp only [parseN]
  rw [if_neg (by simpa using h), parseN_two m (stepF l).2.length _ (by omega) (Nat.le_refl _)]
/-- each step of a pattern: a star takes every byte, a plain byte is alone. -/
theorem step_props (l : List UInt8) : ((stepF l).1.any = true → (stepF l).1 = starSt) ∧ ((stepF l).1.any = false → (stepF l).1.set = false → (stepF l).1 = oneSt (stepF l).1.one) := by
  unfold stepF
  split
  · exact ⟨fun _ => rfl, fun h => (by cases h)⟩
  · split
    · exact ⟨fun h => (by cases h), fun _ h => (by cases h)⟩
    · split
      · exact ⟨fun h => (by cases h), fun _ h => (by cases h)⟩
      · exact ⟨fun h => (by cases h), fun _ _ => rfl⟩
theorem parse_props (n : Nat) (l : List UInt8) : ∀ s, s ∈ parseN n l → (s.any = true → s = starSt) ∧ (s.any = false → s.set = false → s = oneSt s.one) := by
  induction n generalizing l with
  | zero => intro s h; cases h
  | succ n ih =>
    intro s h
    simp only [parseN] at h
    split at h
    · cases h
    · rcases List.mem_cons.1 h with h | h
      · subst h; exact step_props l
      · exact ih _ s h
theorem parse_len (n : Nat) (l : List UInt8) : (parseN n l).length ≤ n := by
  induction n generalizing l with
  | zero => exact Nat.le_refl _
  | succ n ih =>
    simp only [parseN]
    split
    · simp
    · have := ih (stepF l).2
      simp only [List.length_cons]; omega
/-- the only text of a pattern. -/
def litOf : List St → Option (List UInt8)
  | [] => some []
  | s :: p => if s.any || s.set then none else (litOf p).map (s.one :: ·)
theorem litOf_mt (p : List St) (hp : ∀ s, s ∈ p → (s.any = false → s.set = false → s = oneSt s.one)) (x : List UInt8) (h : litOf p = some x) (t : List UInt8) : mt p t = (x == t) := by
  induction p generalizing x t with
  | nil =>
    have : x = [] := by simpa [litOf] using h.symm
    subst this
    cases t <;> rfl
  | cons s p ih =>
    simp only [litOf] at h
    split at h
    · cases h
    · rename_i hs
      obtain ⟨y, hy, rfl⟩ := Option.map_eq_some_iff.1 h
      have h1 : s.any = false ∧ s.set = false := by simpa using hs
      have e := hp s (by simp) h1.1 h1.2
      cases t with
      | nil => rw [mt_one_nil h1.1]; rfl
      | cons b t =>
        rw [mt_one_cons h1.1, ih (fun s hs => hp s (by simp [hs])) y hy t]
        have : s.f b = (b == s.one) := by rw [e]; rfl
        rw [this]
        show _ = (s.one == b && y == t)
        rw [show (b == s.one) = (s.one == b) from Bool.beq_comm]
def lit (l : List UInt8) : Option (List UInt8) := litOf (parse l)
theorem lit_mt {l x : List UInt8} (h : lit l = some x) (t : List UInt8) : mt (parse l) t = (x == t) :=
  litOf_mt _ (fun s hs => (parse_props _ _ s hs).2) x h t
def lowB (c : UInt8) : UInt8 := if 65 ≤ c ∧ c ≤ 90 then c + 32 else c
def fold (l : List UInt8) : List UInt8 := l.map lowB
/-- what Match says. -/
def match' (p t : List UInt8) (f : Bool) : Bool := if f then mt (parse (fold p)) (fold t) else mt (parse p) t
def prog (l : List UInt8) : List St := (parse l).foldl colF []
theorem prog_mt (l t : List UInt8) : mt (prog l) t = mt (parse l) t := by unfold prog; rw [col_mt]; rfl
theorem prog_adj (l : List UInt8) : noAdj (prog l) := col_adj _ noAdj_nil
theorem col_sub (p acc : List St) (P : St → Prop) (h : ∀ s, s ∈ acc → P s) (h' : ∀ s, s ∈ p → P s) : ∀ s, s ∈ p.foldl colF acc → P s := by
  induction p generalizing acc with
  | nil => exact h
  | cons a p ih =>
    apply ih
    · intro s hs
      unfold colF at hs
      split at hs
      · exact h s hs
      · rcases List.mem_append.1 hs with hs | hs
        · exact h s hs
        · have : s = a := by simpa using hs
          subst this; exact h' s (by simp)
    · intro s hs; exact h' s (by simp [hs])
theorem prog_star (l : List UInt8) : ∀ s, s ∈ prog l → s.any = true → s = starSt := fun s hs => (col_sub (parse l) [] (fun s => s.any = true → s = starSt) (fun s h => by cases h) (fun s h => (parse_props _ _ s h).1)) s hs
theorem col_len (p acc : List St) : (p.foldl colF acc).length ≤ acc.length + p.length := by
  induction p generalizing acc with
  | nil => simp
  | cons a p ih =>
    have := ih (colF acc a)
    have h2 : (colF acc a).length ≤ acc.length + 1 := by unfold colF; split <;> simp
    rw [List.foldl_cons, List.length_cons]; omega
theorem prog_len (l : List UInt8) : (prog l).length ≤ l.length := by
  have := col_len (parse l) []
  have h2 : (parse l).length ≤ l.length := parse_len _ _
  have h3 : (prog l).length ≤ 0 + (parse l).length := this
  omega
end Go.Proofs.Gb
