import Derived.Test.YtkhimjdipggmjaaGreatDoorNum4
import Derived.Test.YtkhimjdipggmjaaGreatDoorGJ
import Derived.Laws.BytesArg
namespace Go.Proofs.YtkhimjdipggmjaaGreatDoor
open Go.RowKit Vi
set_option linter.unusedVariables false

theorem cons_str (b : UInt8) (l : List UInt8) : (⟨#[b]⟩ : ByteArray) ++ ⟨l.toArray⟩ = ⟨(b :: l).toArray⟩ := by
  apply ByteArray.ext
  simp
theorem conv1 (w : World) (T : TypeId) (x : Int) :
    Sem.run Tryz.prog (convert 48 9 (.slice (some ⟨w.heap.size, 0, none⟩) 1 1)) (w.alloc (.cells #[.int .u8 x] T)) =
      .ok (.string (strOfNums [x])) (w.alloc (.cells #[.int .u8 x] T)) := by
  refine run_convert_bytes_arg _ 48 5 Tryz.underlying48 Tryz.underlying5 w.heap.size 0 1 1 _ rfl ?_ 9 Tryz.underlying9
  intro i hi
  rw [World.cell?_alloc_at _ _ _ _ rfl]
  match i, hi with
  | 0, _ => rfl
theorem digit_str (u : Nat) (r : List UInt8) : strOfNums [48 + (u : Int) % 10] ++ (⟨r.toArray⟩ : ByteArray) = ⟨(UInt8.ofNat (48 + u % 10) :: r).toArray⟩ := by
  have e : strOfNums [48 + (u : Int) % 10] = ⟨#[UInt8.ofNat (48 + u % 10)]⟩ := by
    unfold strOfNums
    simp only [List.map]
    rw [show ((48 + (u : Int) % 10).toNat) = 48 + u % 10 by omega]
  rw [e, cons_str]
theorem one_size (x : Int) : (strOfNums [x]).size = 1 := rfl
def upper (u : Nat) : List UInt8 := if u = 0 then [] else Lib.decDigits u
theorem upper_step (u : Nat) (r : List UInt8) (h : u ≠ 0) : upper (u / 10) ++ (UInt8.ofNat (48 + u % 10) :: r) = upper u ++ r := by
  unfold upper
  rw [if_neg h]
  exact digits_step u r
theorem upper_len {u N : Nat} {r : List UInt8} (h : upper u ++ r = Lib.decDigits N) (hN : N < 18446744073709551616) : r.length ≤ 20 := by
  have h1 := congrArg List.length h
  rw [List.length_append, Lib.decDigits_length] at h1
  have h2 := Lib.nDigits_le20 N hN
  omega

end Go.Proofs.YtkhimjdipggmjaaGreatDoor
namespace Go.Proofs.YtkhimjdipggmjaaGreatDoor
open Go.RowKit Vi
set_option linter.unusedVariables false

theorem neg_of (s : ByteArray) (hs : 0 < s.size) : isNeg s.data.toList = (s[0] == 45) := by
  rw [head_tl s hs]; rfl
/-- behind k bytes of the loop. -/
structure NumAt (l : List UInt8) (k : Nat) (x : Int) (m : Nat) : Prop where
  dec : Lib.decFrom 0 ((body l).take (k - off l)) = some m
  val : x = w64 (sg (isNeg l) m)
theorem NumAt.start (l : List UInt8) : NumAt l 0 0 0 := ⟨by simp [Lib.decFrom], by unfold sg w64; cases isNeg l <;> simp⟩
theorem NumAt.skip {l : List UInt8} {x : Int} {m : Nat} (h : NumAt l 0 x m) (ho : off l = 1) : NumAt l 1 x m := ⟨by rw [ho]; have := h.dec; rw [ho] at this; exact this, h.val⟩
theorem NumAt.range {l : List UInt8} {k : Nat} {x : Int} {m : Nat} (h : NumAt l k x m) : -9223372036854775808 ≤ x ∧ x ≤ 9223372036854775807 := by rw [h.val]; exact w64_range _
theorem body_get (l : List UInt8) (k : Nat) (hk : off l ≤ k) : (body l)[k - off l]? = l[k]? := by
  rw [← body_drop, List.getElem?_drop, show off l + (k - off l) = k by omega]
theorem dig_val {c : UInt8} (h0 : 48 ≤ c.toNat) (h1 : c.toNat ≤ 57) : Lib.digitVal c = some (c.toNat - 48) := by unfold Lib.digitVal; rw [if_pos ⟨h0, h1⟩]
theorem NumAt.dec_step {l : List UInt8} {k : Nat} {x : Int} {m : Nat} (h : NumAt l k x m) (hk : off l ≤ k) (c : UInt8) (hc : l[k]? = some c) (h0 : 48 ≤ c.toNat) (h1 : c.toNat ≤ 57) :
    Lib.decFrom 0 ((body l).take (k + 1 - off l)) = some (m * 10 + (c.toNat - 48)) := by
  rw [show k + 1 - off l = (k - off l) + 1 by omega]
  exact Lib.decFrom_take _ _ _ _ _ _ h.dec (by rw [body_get l k hk]; exact hc) (dig_val h0 h1)
theorem NumAt.pos {l : List UInt8} {k : Nat} {x : Int} {m : Nat} (h : NumAt l k x m) (hn : isNeg l = false) (c : UInt8) (hc : l[k]? = some c) (h0 : 48 ≤ c.toNat) (h1 : c.toNat ≤ 57) :
    NumAt l (k + 1) (w64 (w64 (x * 10) + ((c.toNat : Int) - 48))) (m * 10 + (c.toNat - 48)) := by
  refine ⟨h.dec_step (by unfold off; rw [hn]; simp) c hc h0 h1, ?_⟩
  rw [h.val, hn, ← w64_step_pos]
  congr 2
  omega
theorem NumAt.neg {l : List UInt8} {k : Nat} {x : Int} {m : Nat} (h : NumAt l k x m) (hn : isNeg l = true) (hk : 1 ≤ k) (c : UInt8) (hc : l[k]? = some c) (h0 : 48 ≤ c.toNat) (h1 : c.toNat ≤ 57) :
    NumAt l (k + 1) (w64 (w64 (x * 10) + -((c.toNat : Int) - 48))) (m * 10 + (c.toNat - 48)) := by
  refine ⟨h.dec_step (by unfold off; rw [hn]; simpa using hk) c hc h0 h1, ?_⟩
  rw [h.val, hn, ← w64_step_neg]
  congr 3
  omega
theorem NumAt.end {l : List UInt8} {x : Int} {m : Nat} (h : NumAt l l.length x m) : numberOf l = if Lib.itoa x = l then some x else none := by
  have hd := h.dec
  rw [List.take_of_length_le (by rw [← body_drop]; simp)] at hd
  have := end_number l m hd
  rw [← h.val] at this
  exact this

theorem w64_wrap (x : Int) : w64 x = wrap64 x := by unfold w64 wrap64; rfl
theorem str48 {s : ByteArray} {x : Int} (h : Lib.itoa x = s.data.toList) : ((itoaB x).toList == s.toList) = true := str_same (by rw [itoaB_list]; exact h)
theorem str48' {s : ByteArray} {x : Int} (h : ¬ Lib.itoa x = s.data.toList) : ((itoaB x).toList == s.toList) = false := str_other (by rw [itoaB_list]; exact h)

end Go.Proofs.YtkhimjdipggmjaaGreatDoor
