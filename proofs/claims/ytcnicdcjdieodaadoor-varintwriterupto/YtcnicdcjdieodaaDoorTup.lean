import Derived.Test.YtcnicdcjdieodaaDoorWorks
import Derived.Test.YtcnicdcjdieodaaDoorInt
namespace Go.Proofs.YtcnicdcjdieodaaDoor
open Go.RowKit Vi
set_option linter.unusedVariables false

def rn (l : List UInt8) : Int := (readLen l).n
def rs (l : List UInt8) : Int := (readLen l).size
def rp (l : List UInt8) : Int := (readLen l).special
def re (l : List UInt8) : Int := (readLen l).err
theorem len_t (s : ByteArray) (w : World) :
    Calls Tryd.prog 10 #[.string s] w fun e w' => e = .returned (.tuple #[.int .i64 (rn s.data.toList), .int .i64 (rs s.data.toList), .int .i64 (rp s.data.toList), .int .i64 (re s.data.toList)]) ∧ w' = w := len_any s w
theorem refLen_t (s : ByteArray) (w : World) :
    Calls Tryd.prog 30 #[.string s] w fun e w' => e = .returned (.tuple #[.int .i64 (rn s.data.toList), .int .i64 (rs s.data.toList), .int .i64 (rp s.data.toList), .int .i64 (re s.data.toList)]) ∧ Below w.heap.size w w' := refLen_any s w
def jn (l : List UInt8) : Int := (readInt l).n
def js (l : List UInt8) : Int := (readInt l).size
def je (l : List UInt8) : Int := (readInt l).err
theorem int_t (s : ByteArray) (w : World) :
    Calls Tryd.prog 12 #[.string s] w fun e w' => e = .returned (.tuple #[.int .i64 (jn s.data.toList), .int .i64 (js s.data.toList), .int .i64 (je s.data.toList)]) ∧ w' = w := int_any s w
theorem refInt_t (s : ByteArray) (w : World) :
    Calls Tryd.prog 31 #[.string s] w fun e w' => e = .returned (.tuple #[.int .i64 (jn s.data.toList), .int .i64 (js s.data.toList), .int .i64 (je s.data.toList)]) ∧ Below w.heap.size w w' := refInt_any s w
def numV (l : List UInt8) : Int := (numberOf l).getD 0
def numOk (l : List UInt8) : Bool := (numberOf l).isSome
theorem numT_tup (l : List UInt8) : numT l = .tuple #[.int .i64 (numV l), .bool (numOk l)] := by
  unfold numT numV numOk
  cases numberOf l <;> rfl
theorem number_t (s : ByteArray) (hs : s.size ≤ 281474976710656) (w : World) (hL : Laid w) :
    Calls Tryd.prog 13 #[.string s] w fun e w' => e = .returned (.tuple #[.int .i64 (numV s.data.toList), .bool (numOk s.data.toList)]) ∧ Below w.heap.size w w' := by
  have h := number_any s hs w hL
  rw [numT_tup] at h
  exact h
end Go.Proofs.YtcnicdcjdieodaaDoor
