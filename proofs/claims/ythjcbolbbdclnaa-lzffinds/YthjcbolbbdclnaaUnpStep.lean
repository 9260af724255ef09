import Derived.Test.YthjcbolbbdclnaaPackMath
namespace Go.Proofs.Lz
set_option linter.unusedVariables false
/-- what comes of what is left, with fuel enough. -/
def unpB (size : Nat) (l o : List UInt8) : List UInt8 × Int := unp size (l.length + 1) l o
theorem unpB_nil_short {size : Nat} {o : List UInt8} (h : o.length < size) : unpB size [] o = ([], 31) := by
  unfold unpB
  simp only [unp]
  rw [if_pos h]
theorem unpB_nil_full {size : Nat} {o : List UInt8} (h : ¬ o.length < size) : unpB size [] o = (o, 0) := by
  unfold unpB
  simp only [unp]
  rw [if_neg h]
theorem unpB_cons (size : Nat) (c : UInt8) (r o : List UInt8) : unpB size (c :: r) o = if c.toNat < 32 then
        if size < o.length + c.toNat + 1 then ([], 31)
        else if r.length < c.toNat + 1 then ([], 20)
        else unpB size (r.drop (c.toNat + 1)) (o ++ r.take (c.toNat + 1))
      else
        match headC c.toNat r with
        | none => ([], 20)
        | some (n, b, r') => if size < o.length + n then ([], 31) else if o.length < b then ([], 30) else unpB size r' (copyN n b o) := by
  unfold unpB
  rw [List.length_cons, unp_cons]
  by_cases h : c.toNat < 32
  · rw [if_pos h, if_pos h]
    rw [unp_fuel size (r.length + 1) ((r.drop (c.toNat + 1)).length + 1) _ _ (by simp; omega) (by omega)]
  · rw [if_neg h, if_neg h]
    cases hh : headC c.toNat r with
    | none => rfl
    | some q =>
      obtain ⟨n, b, r'⟩ := q
      have := headC_len hh
      simp only
      rw [unp_fuel size (r.length + 1) (r'.length + 1) _ _ (by omega) (by omega)]
theorem unpB_run1 {size c : Nat} {x : UInt8} {r o l : List UInt8} (hl : l = x :: r) (hx : x.toNat = c) (h : c < 32) (h1 : size < o.length + c + 1) : unpB size l o = ([], 31) := by
  rw [hl, unpB_cons, hx, if_pos h, if_pos h1]
theorem unpB_run2 {size c : Nat} {x : UInt8} {r o l : List UInt8} (hl : l = x :: r) (hx : x.toNat = c) (h : c < 32) (h1 : ¬ size < o.length + c + 1) (h2 : r.length < c + 1) : unpB size l o = ([], 20) := by
  rw [hl, unpB_cons, hx, if_pos h, if_neg h1, if_pos h2]
theorem unpB_run3 {size c : Nat} {x : UInt8} {r o l : List UInt8} (hl : l = x :: r) (hx : x.toNat = c) (h : c < 32) (h1 : ¬ size < o.length + c + 1) (h2 : ¬ r.length < c + 1) : unpB size l o = unpB size (r.drop (c + 1)) (o ++ r.take (c + 1)) := by
  rw [hl, unpB_cons, hx, if_pos h, if_neg h1, if_neg h2]
theorem unpB_none {size c : Nat} {x : UInt8} {r o l : List UInt8} (hl : l = x :: r) (hx : x.toNat = c) (h : ¬ c < 32) (hh : headC c r = none) : unpB size l o = ([], 20) := by
  rw [hl, unpB_cons, hx, if_neg h, hh]
theorem unpB_copy {size c n b : Nat} {x : UInt8} {r o l r' : List UInt8} (hl : l = x :: r) (hx : x.toNat = c) (h : ¬ c < 32) (hh : headC c r = some (n, b, r')) : unpB size l o = if size < o.length + n then ([], 31) else if o.length < b then ([], 30) else unpB size r' (copyN n b o) := by
  rw [hl, unpB_cons, hx, if_neg h, hh]
theorem unpack_unpB (l : List UInt8) (size : Nat) (h1 : 1 ≤ size) (h2 : size ≤ 524288) : unpack l (size : Int) = unpB size l [] := by
  unfold unpack
  rw [if_neg (by omega)]; rfl
end Go.Proofs.Lz
