import Derived.Test.YtcnicdcjdieodaaDoorRLen2
import Derived.Test.YtcnicdcjdieodaaDoorRPutI
import Derived.Test.YtcnicdcjdieodaaDoorIntCase
namespace Go.Proofs.YtcnicdcjdieodaaDoor
open Go.RowKit Vi
set_option linter.unusedVariables false

def intT (l : List UInt8) : Value := .tuple #[.int .i64 (readInt l).n, .int .i64 (readInt l).size, .int .i64 (readInt l).err]
theorem intT_eq {l : List UInt8} {r : IntR} (h : readInt l = r) : intT l = .tuple #[.int .i64 r.n, .int .i64 r.size, .int .i64 r.err] := by unfold intT; rw [h]
theorem intB_list (n : Int) : (intB n).data.toList = intL n := by unfold intB; simp
theorem intIn_at1 (s : ByteArray) (h : 2 ≤ s.size) (w : World) :
    Calls Tryd.prog 38 #[.string (s.extract 1 2)] w fun e w' => e = .returned (.int .i64 (sgn 256 (num ((tl s.data.toList).take 1)))) ∧ w' = w := by
  have := intIn_1 (s.extract 1 2) (ext1_size s 1 h) w
  rw [ext1_list s 1] at this
  exact this
theorem intIn_at2 (s : ByteArray) (h : 3 ≤ s.size) (w : World) :
    Calls Tryd.prog 38 #[.string (s.extract 1 3)] w fun e w' => e = .returned (.int .i64 (sgn 65536 (num ((tl s.data.toList).take 2)))) ∧ w' = w := by
  have := intIn_2 (s.extract 1 3) (ext1_size s 2 h) w
  rw [ext1_list s 2] at this
  exact this
theorem intIn_at4 (s : ByteArray) (h : 5 ≤ s.size) (w : World) :
    Calls Tryd.prog 38 #[.string (s.extract 1 5)] w fun e w' => e = .returned (.int .i64 (sgn 4294967296 (num ((tl s.data.toList).take 4)))) ∧ w' = w := by
  have := intIn_4 (s.extract 1 5) (ext1_size s 4 h) w
  rw [ext1_list s 4] at this
  exact this
theorem signed_at1 (s : ByteArray) (h : 2 ≤ s.size) (w : World) :
    Calls Tryd.prog 45 #[.string (s.extract 1 2)] w fun e w' => e = .returned (.int .i64 (sgn 256 (num ((tl s.data.toList).take 1)))) ∧ w' = w := by
  have := signed_1 (s.extract 1 2) (ext1_size s 1 h) w
  rw [ext1_list s 1] at this
  exact this
theorem signed_at2 (s : ByteArray) (h : 3 ≤ s.size) (w : World) :
    Calls Tryd.prog 45 #[.string (s.extract 1 3)] w fun e w' => e = .returned (.int .i64 (sgn 65536 (num ((tl s.data.toList).take 2)))) ∧ w' = w := by
  have := signed_2 (s.extract 1 3) (ext1_size s 2 h) w
  rw [ext1_list s 2] at this
  exact this
theorem signed_at4 (s : ByteArray) (h : 5 ≤ s.size) (w : World) :
    Calls Tryd.prog 45 #[.string (s.extract 1 5)] w fun e w' => e = .returned (.int .i64 (sgn 4294967296 (num ((tl s.data.toList).take 4)))) ∧ w' = w := by
  have := signed_4 (s.extract 1 5) (ext1_size s 4 h) w
  rw [ext1_list s 4] at this
  exact this
set_option maxHeartbeats 400000 in
theorem int_empty (w : World) :
    Calls Tryd.prog 12 #[.string ⟨#[]⟩] w fun e w' => e = .returned (intT []) ∧ w' = w := by
  have HR : Hid _ := intT_eq ri_nil
  go_enter Tryd.func12, Tryd.ntmps12
  go_wp2
  go_ret3
  exact ⟨by rw [HR.out]; rfl, rfl⟩
set_option maxRecDepth 20000 in
set_option maxHeartbeats 400000 in
theorem int_lo (s : ByteArray) (hs : 0 < s.size) (h : (s[0].toNat : Int) < 192) (w : World) :
    Calls Tryd.prog 12 #[.string s] w fun e w' => e = .returned (intT s.data.toList) ∧ w' = w := by
  have he := full_str s hs
  have HR : Hid _ := intT_eq (ri_bad (head_tl s hs) (Or.inl h))
  have HF : Hid ((0 ≤ (s[0].toNat : Int) ∧ (s[0].toNat : Int) < 192) ∨ (196 ≤ (s[0].toNat : Int) ∧ (s[0].toNat : Int) ≤ 255)) := by show _ ∨ _; omega
  clear h
  go_enter Tryd.func12, Tryd.ntmps12
  go_wp2_with fail
  refine (formOf_no _ HF.out _).mono ?_
  rintro e w1 ⟨rfl, rfl⟩
  go_wp2
  go_ret3
  exact ⟨by rw [HR.out]; rfl, rfl⟩
set_option maxRecDepth 20000 in
set_option maxHeartbeats 400000 in
theorem int_hi (s : ByteArray) (hs : 0 < s.size) (h : 195 < (s[0].toNat : Int)) (w : World) :
    Calls Tryd.prog 12 #[.string s] w fun e w' => e = .returned (intT s.data.toList) ∧ w' = w := by
  have he := full_str s hs
  have HR : Hid _ := intT_eq (ri_bad (head_tl s hs) (Or.inr (by omega)))
  have HF : Hid ((0 ≤ (s[0].toNat : Int) ∧ (s[0].toNat : Int) < 192) ∨ (196 ≤ (s[0].toNat : Int) ∧ (s[0].toNat : Int) ≤ 255)) := by have := s[0].toNat_lt; show _ ∨ _; omega
  clear h
  go_enter Tryd.func12, Tryd.ntmps12
  go_wp2_with fail
  refine (formOf_no _ HF.out _).mono ?_
  rintro e w1 ⟨rfl, rfl⟩
  go_wp2
  go_ret3
  exact ⟨by rw [HR.out]; rfl, rfl⟩
set_option maxRecDepth 20000 in
set_option maxHeartbeats 400000 in
theorem int_195 (s : ByteArray) (hs : 0 < s.size) (h : (s[0].toNat : Int) = 195) (w : World) :
    Calls Tryd.prog 12 #[.string s] w fun e w' => e = .returned (intT s.data.toList) ∧ w' = w := by
  have he := full_str s hs
  have HR : Hid _ := intT_eq (ri_bad (head_tl s hs) (Or.inr (by omega)))
  have HF := formOf_yes 195 (by omega) (by omega)
  rw [show (195 : Int) - 192 = 3 from rfl] at HF
  have HF' : Hid _ := HF
  clear HF
  go_enter Tryd.func12, Tryd.ntmps12
  go_wp2_with fail
  refine (HF'.out _).mono ?_
  rintro e w1 ⟨rfl, rfl⟩
  go_wp2
  go_ret3
  exact ⟨by rw [HR.out]; rfl, rfl⟩
set_option maxRecDepth 20000 in
set_option maxHeartbeats 400000 in
theorem int_0short (s : ByteArray) (hs : 0 < s.size) (h : (s[0].toNat : Int) = 192) (h2 : s.size < 2) (w : World) :
    Calls Tryd.prog 12 #[.string s] w fun e w' => e = .returned (intT s.data.toList) ∧ w' = w := by
  have he := full_str s hs
  have HR : Hid _ := intT_eq (ri_0short (head_tl s hs) h (by rw [list_len]; omega))
  have HF := formOf_yes 192 (by omega) (by omega)
  rw [show (192 : Int) - 192 = 0 from rfl] at HF
  have HF' : Hid _ := HF
  clear HF
  have h2' : (s.size : Int) < 2 := by omega
  go_enter Tryd.func12, Tryd.ntmps12
  go_wp2_with fail
  refine (HF'.out _).mono ?_
  rintro e w1 ⟨rfl, rfl⟩
  go_wp2
  go_ret3
  exact ⟨by rw [HR.out]; rfl, rfl⟩
set_option maxRecDepth 20000 in
set_option maxHeartbeats 400000 in
theorem int_0ok (s : ByteArray) (hs : 0 < s.size) (h : (s[0].toNat : Int) = 192) (h2 : 2 ≤ s.size)  (w : World) :
    Calls Tryd.prog 12 #[.string s] w fun e w' => e = .returned (intT s.data.toList) ∧ w' = w := by
  have he := full_str s hs
  have HR : Hid _ := intT_eq (ri_0 (head_tl s hs) h (by rw [list_len]; omega))
  have HF := formOf_yes 192 (by omega) (by omega)
  rw [show (192 : Int) - 192 = 0 from rfl] at HF
  have HF' : Hid _ := HF
  clear HF
  have hrg := sgn1_range ((tl s.data.toList).take 1) (by rw [List.length_take, tl_length, list_len]; omega)
  have h2' : 2 ≤ (s.size : Int) := by omega
  have HL : Hid (-128 ≤ sgn 256 (num ((tl s.data.toList).take 1)) ∧ sgn 256 (num ((tl s.data.toList).take 1)) < 128) := hrg
  have HV := intIn_at1 s h2
  clear hrg
  generalize sgn 256 (num ((tl s.data.toList).take 1)) = x at *
  have HV' : Hid _ := HV
  clear HV
  go_enter Tryd.func12, Tryd.ntmps12
  go_wp2_with fail
  refine (HF'.out _).mono ?_
  rintro e w1 ⟨rfl, rfl⟩
  go_wp2_with fail
  refine (HV'.out _).mono ?_
  rintro e w1 ⟨rfl, rfl⟩
  go_wp2_with fail
  refine (leastForm_0 _ HL.out.1 HL.out.2 _).mono ?_
  rintro e w1 ⟨rfl, rfl⟩
  go_wp2
  go_ret3
  exact ⟨by rw [HR.out]; rfl, rfl⟩
set_option maxRecDepth 20000 in
set_option maxHeartbeats 400000 in
theorem int_1short (s : ByteArray) (hs : 0 < s.size) (h : (s[0].toNat : Int) = 193) (h2 : s.size < 3) (w : World) :
    Calls Tryd.prog 12 #[.string s] w fun e w' => e = .returned (intT s.data.toList) ∧ w' = w := by
  have he := full_str s hs
  have HR : Hid _ := intT_eq (ri_1short (head_tl s hs) h (by rw [list_len]; omega))
  have HF := formOf_yes 193 (by omega) (by omega)
  rw [show (193 : Int) - 192 = 1 from rfl] at HF
  have HF' : Hid _ := HF
  clear HF
  have h2' : (s.size : Int) < 3 := by omega
  go_enter Tryd.func12, Tryd.ntmps12
  go_wp2_with fail
  refine (HF'.out _).mono ?_
  rintro e w1 ⟨rfl, rfl⟩
  go_wp2
  go_ret3
  exact ⟨by rw [HR.out]; rfl, rfl⟩
set_option maxRecDepth 20000 in
set_option maxHeartbeats 400000 in
theorem int_1ok (s : ByteArray) (hs : 0 < s.size) (h : (s[0].toNat : Int) = 193) (h2 : 3 ≤ s.size) (hv : leastF (sgn 65536 (num ((tl s.data.toList).take 2))) = 1) (w : World) :
    Calls Tryd.prog 12 #[.string s] w fun e w' => e = .returned (intT s.data.toList) ∧ w' = w := by
  have he := full_str s hs
  have HR : Hid _ := intT_eq ((ri_1 (head_tl s hs) h (by rw [list_len]; omega)).trans (if_pos hv))
  have HF := formOf_yes 193 (by omega) (by omega)
  rw [show (193 : Int) - 192 = 1 from rfl] at HF
  have HF' : Hid _ := HF
  clear HF
  have hrg := sgn2_range ((tl s.data.toList).take 2) (by rw [List.length_take, tl_length, list_len]; omega)
  have h2' : 3 ≤ (s.size : Int) := by omega
  have HL : Hid (¬ (-128 ≤ sgn 65536 (num ((tl s.data.toList).take 2)) ∧ sgn 65536 (num ((tl s.data.toList).take 2)) < 128) ∧ (-32768 ≤ sgn 65536 (num ((tl s.data.toList).take 2)) ∧ sgn 65536 (num ((tl s.data.toList).take 2)) < 32768)) := least_eq1 hv
  have HV := intIn_at2 s h2
  clear hrg hv
  generalize sgn 65536 (num ((tl s.data.toList).take 2)) = x at *
  have HV' : Hid _ := HV
  clear HV
  go_enter Tryd.func12, Tryd.ntmps12
  go_wp2_with fail
  refine (HF'.out _).mono ?_
  rintro e w1 ⟨rfl, rfl⟩
  go_wp2_with fail
  refine (HV'.out _).mono ?_
  rintro e w1 ⟨rfl, rfl⟩
  go_wp2_with fail
  refine (leastForm_1 _ HL.out.1 HL.out.2.1 HL.out.2.2 _).mono ?_
  rintro e w1 ⟨rfl, rfl⟩
  go_wp2
  go_ret3
  exact ⟨by rw [HR.out]; rfl, rfl⟩
set_option maxRecDepth 20000 in
set_option maxHeartbeats 400000 in
theorem int_1form (s : ByteArray) (hs : 0 < s.size) (h : (s[0].toNat : Int) = 193) (h2 : 3 ≤ s.size) (hv : -128 ≤ sgn 65536 (num ((tl s.data.toList).take 2)) ∧ sgn 65536 (num ((tl s.data.toList).take 2)) < 128) (w : World) :
    Calls Tryd.prog 12 #[.string s] w fun e w' => e = .returned (intT s.data.toList) ∧ w' = w := by
  have he := full_str s hs
  have HR : Hid _ := intT_eq ((ri_1 (head_tl s hs) h (by rw [list_len]; omega)).trans (if_neg (by rw [least_0 hv]; omega)))
  have HF := formOf_yes 193 (by omega) (by omega)
  rw [show (193 : Int) - 192 = 1 from rfl] at HF
  have HF' : Hid _ := HF
  clear HF
  have hrg := sgn2_range ((tl s.data.toList).take 2) (by rw [List.length_take, tl_length, list_len]; omega)
  have h2' : 3 ≤ (s.size : Int) := by omega
  have HL : Hid (-128 ≤ sgn 65536 (num ((tl s.data.toList).take 2)) ∧ sgn 65536 (num ((tl s.data.toList).take 2)) < 128) := hv
  have HV := intIn_at2 s h2
  clear hrg hv
  generalize sgn 65536 (num ((tl s.data.toList).take 2)) = x at *
  have HV' : Hid _ := HV
  clear HV
  go_enter Tryd.func12, Tryd.ntmps12
  go_wp2_with fail
  refine (HF'.out _).mono ?_
  rintro e w1 ⟨rfl, rfl⟩
  go_wp2_with fail
  refine (HV'.out _).mono ?_
  rintro e w1 ⟨rfl, rfl⟩
  go_wp2_with fail
  refine (leastForm_0 _ HL.out.1 HL.out.2 _).mono ?_
  rintro e w1 ⟨rfl, rfl⟩
  go_wp2
  go_ret3
  exact ⟨by rw [HR.out]; rfl, rfl⟩
set_option maxRecDepth 20000 in
set_option maxHeartbeats 400000 in
theorem int_2short (s : ByteArray) (hs : 0 < s.size) (h : (s[0].toNat : Int) = 194) (h2 : s.size < 5) (w : World) :
    Calls Tryd.prog 12 #[.string s] w fun e w' => e = .returned (intT s.data.toList) ∧ w' = w := by
  have he := full_str s hs
  have HR : Hid _ := intT_eq (ri_2short (head_tl s hs) h (by rw [list_len]; omega))
  have HF := formOf_yes 194 (by omega) (by omega)
  rw [show (194 : Int) - 192 = 2 from rfl] at HF
  have HF' : Hid _ := HF
  clear HF
  have h2' : (s.size : Int) < 5 := by omega
  go_enter Tryd.func12, Tryd.ntmps12
  go_wp2_with fail
  refine (HF'.out _).mono ?_
  rintro e w1 ⟨rfl, rfl⟩
  go_wp2
  go_ret3
  exact ⟨by rw [HR.out]; rfl, rfl⟩
set_option maxRecDepth 20000 in
set_option maxHeartbeats 400000 in
theorem int_2ok (s : ByteArray) (hs : 0 < s.size) (h : (s[0].toNat : Int) = 194) (h2 : 5 ≤ s.size) (hv : leastF (sgn 4294967296 (num ((tl s.data.toList).take 4))) = 2) (w : World) :
    Calls Tryd.prog 12 #[.string s] w fun e w' => e = .returned (intT s.data.toList) ∧ w' = w := by
  have he := full_str s hs
  have HR : Hid _ := intT_eq ((ri_2 (head_tl s hs) h (by rw [list_len]; omega)).trans (if_pos hv))
  have HF := formOf_yes 194 (by omega) (by omega)
  rw [show (194 : Int) - 192 = 2 from rfl] at HF
  have HF' : Hid _ := HF
  clear HF
  have hrg := sgn4_range ((tl s.data.toList).take 4) (by rw [List.length_take, tl_length, list_len]; omega)
  have h2' : 5 ≤ (s.size : Int) := by omega
  have HL : Hid (¬ (-32768 ≤ sgn 4294967296 (num ((tl s.data.toList).take 4)) ∧ sgn 4294967296 (num ((tl s.data.toList).take 4)) < 32768) ∧ (-2147483648 ≤ sgn 4294967296 (num ((tl s.data.toList).take 4)) ∧ sgn 4294967296 (num ((tl s.data.toList).take 4)) < 2147483648)) := least_eq2 hv
  have HV := intIn_at4 s h2
  clear hrg hv
  generalize sgn 4294967296 (num ((tl s.data.toList).take 4)) = x at *
  have HV' : Hid _ := HV
  clear HV
  go_enter Tryd.func12, Tryd.ntmps12
  go_wp2_with fail
  refine (HF'.out _).mono ?_
  rintro e w1 ⟨rfl, rfl⟩
  go_wp2_with fail
  refine (HV'.out _).mono ?_
  rintro e w1 ⟨rfl, rfl⟩
  go_wp2_with fail
  refine (leastForm_2 _ HL.out.1 HL.out.2.1 HL.out.2.2 _).mono ?_
  rintro e w1 ⟨rfl, rfl⟩
  go_wp2
  go_ret3
  exact ⟨by rw [HR.out]; rfl, rfl⟩
set_option maxRecDepth 20000 in
set_option maxHeartbeats 400000 in
theorem int_2form0 (s : ByteArray) (hs : 0 < s.size) (h : (s[0].toNat : Int) = 194) (h2 : 5 ≤ s.size) (hv : -128 ≤ sgn 4294967296 (num ((tl s.data.toList).take 4)) ∧ sgn 4294967296 (num ((tl s.data.toList).take 4)) < 128) (w : World) :
    Calls Tryd.prog 12 #[.string s] w fun e w' => e = .returned (intT s.data.toList) ∧ w' = w := by
  have he := full_str s hs
  have HR : Hid _ := intT_eq ((ri_2 (head_tl s hs) h (by rw [list_len]; omega)).trans (if_neg (by rw [least_0 hv]; omega)))
  have HF := formOf_yes 194 (by omega) (by omega)
  rw [show (194 : Int) - 192 = 2 from rfl] at HF
  have HF' : Hid _ := HF
  clear HF
  have hrg := sgn4_range ((tl s.data.toList).take 4) (by rw [List.length_take, tl_length, list_len]; omega)
  have h2' : 5 ≤ (s.size : Int) := by omega
  have HL : Hid (-128 ≤ sgn 4294967296 (num ((tl s.data.toList).take 4)) ∧ sgn 4294967296 (num ((tl s.data.toList).take 4)) < 128) := hv
  have HV := intIn_at4 s h2
  clear hrg hv
  generalize sgn 4294967296 (num ((tl s.data.toList).take 4)) = x at *
  have HV' : Hid _ := HV
  clear HV
  go_enter Tryd.func12, Tryd.ntmps12
  go_wp2_with fail
  refine (HF'.out _).mono ?_
  rintro e w1 ⟨rfl, rfl⟩
  go_wp2_with fail
  refine (HV'.out _).mono ?_
  rintro e w1 ⟨rfl, rfl⟩
  go_wp2_with fail
  refine (leastForm_0 _ HL.out.1 HL.out.2 _).mono ?_
  rintro e w1 ⟨rfl, rfl⟩
  go_wp2
  go_ret3
  exact ⟨by rw [HR.out]; rfl, rfl⟩
set_option maxRecDepth 20000 in
set_option maxHeartbeats 400000 in
theorem int_2form1 (s : ByteArray) (hs : 0 < s.size) (h : (s[0].toNat : Int) = 194) (h2 : 5 ≤ s.size) (hv : ¬ (-128 ≤ sgn 4294967296 (num ((tl s.data.toList).take 4)) ∧ sgn 4294967296 (num ((tl s.data.toList).take 4)) < 128)) (hv2 : -32768 ≤ sgn 4294967296 (num ((tl s.data.toList).take 4)) ∧ sgn 4294967296 (num ((tl s.data.toList).take 4)) < 32768) (w : World) :
    Calls Tryd.prog 12 #[.string s] w fun e w' => e = .returned (intT s.data.toList) ∧ w' = w := by
  have he := full_str s hs
  have HR : Hid _ := intT_eq ((ri_2 (head_tl s hs) h (by rw [list_len]; omega)).trans (if_neg (by rw [least_1 hv hv2]; omega)))
  have HF := formOf_yes 194 (by omega) (by omega)
  rw [show (194 : Int) - 192 = 2 from rfl] at HF
  have HF' : Hid _ := HF
  clear HF
  have hrg := sgn4_range ((tl s.data.toList).take 4) (by rw [List.length_take, tl_length, list_len]; omega)
  have h2' : 5 ≤ (s.size : Int) := by omega
  have HL : Hid (¬ (-128 ≤ sgn 4294967296 (num ((tl s.data.toList).take 4)) ∧ sgn 4294967296 (num ((tl s.data.toList).take 4)) < 128) ∧ (-32768 ≤ sgn 4294967296 (num ((tl s.data.toList).take 4)) ∧ sgn 4294967296 (num ((tl s.data.toList).take 4)) < 32768)) := ⟨hv, hv2⟩
  have HV := intIn_at4 s h2
  clear hrg hv hv2
  generalize sgn 4294967296 (num ((tl s.data.toList).take 4)) = x at *
  have HV' : Hid _ := HV
  clear HV
  go_enter Tryd.func12, Tryd.ntmps12
  go_wp2_with fail
  refine (HF'.out _).mono ?_
  rintro e w1 ⟨rfl, rfl⟩
  go_wp2_with fail
  refine (HV'.out _).mono ?_
  rintro e w1 ⟨rfl, rfl⟩
  go_wp2_with fail
  refine (leastForm_1 _ HL.out.1 HL.out.2.1 HL.out.2.2 _).mono ?_
  rintro e w1 ⟨rfl, rfl⟩
  go_wp2
  go_ret3
  exact ⟨by rw [HR.out]; rfl, rfl⟩
theorem int_any (s : ByteArray) (w : World) :
    Calls Tryd.prog 12 #[.string s] w fun e w' => e = .returned (intT s.data.toList) ∧ w' = w := by
  by_cases hs0 : s.size = 0
  · rw [empty_str s hs0]; exact int_empty w
  · have hs : 0 < s.size := by omega
    by_cases c0 : (s[0].toNat : Int) = 192
    · by_cases d : s.size < 2
      · exact int_0short s hs c0 d w
      · exact int_0ok s hs c0 (by omega) w
    by_cases c1 : (s[0].toNat : Int) = 193
    · by_cases d : s.size < 3
      · exact int_1short s hs c1 d w
      · have hrg := sgn2_range ((tl s.data.toList).take 2) (by rw [List.length_take, tl_length, list_len]; omega)
        by_cases v : -128 ≤ sgn 65536 (num ((tl s.data.toList).take 2)) ∧ sgn 65536 (num ((tl s.data.toList).take 2)) < 128
        · exact int_1form s hs c1 (by omega) v w
        · exact int_1ok s hs c1 (by omega) (least_1 v hrg) w
    by_cases c2 : (s[0].toNat : Int) = 194
    · by_cases d : s.size < 5
      · exact int_2short s hs c2 d w
      · have hrg := sgn4_range ((tl s.data.toList).take 4) (by rw [List.length_take, tl_length, list_len]; omega)
        by_cases v : -128 ≤ sgn 4294967296 (num ((tl s.data.toList).take 4)) ∧ sgn 4294967296 (num ((tl s.data.toList).take 4)) < 128
        · exact int_2form0 s hs c2 (by omega) v w
        · by_cases v2 : -32768 ≤ sgn 4294967296 (num ((tl s.data.toList).take 4)) ∧ sgn 4294967296 (num ((tl s.data.toList).take 4)) < 32768
          · exact int_2form1 s hs c2 (by omega) v v2 w
          · exact int_2ok s hs c2 (by omega) (least_2 v2 hrg) w
    by_cases c3 : (s[0].toNat : Int) = 195
    · exact int_195 s hs c3 w
    by_cases c4 : (s[0].toNat : Int) < 192
    · exact int_lo s hs c4 w
    · exact int_hi s hs (by omega) w
set_option maxHeartbeats 400000 in
theorem refInt_empty (w : World) :
    Calls Tryd.prog 31 #[.string ⟨#[]⟩] w fun e w' => e = .returned (intT []) ∧ Below w.heap.size w w' := by
  have HR : Hid _ := intT_eq ri_nil
  go_enter Tryd.func31, Tryd.ntmps31
  go_wp2
  go_ret3
  exact ⟨by rw [HR.out]; rfl, Below.refl _ _⟩
set_option maxRecDepth 20000 in
set_option maxHeartbeats 400000 in
theorem refInt_bad (s : ByteArray) (hs : 0 < s.size) (h : (s[0].toNat : Int) < 192 ∨ 194 < (s[0].toNat : Int)) (w : World) :
    Calls Tryd.prog 31 #[.string s] w fun e w' => e = .returned (intT s.data.toList) ∧ Below w.heap.size w w' := by
  have he := full_str s hs
  have HR : Hid _ := intT_eq (ri_bad (head_tl s hs) h)
  have t1 : ((s[0].toNat : Int) == 192) = false := by simp; omega
  have t2 : ((s[0].toNat : Int) == 193) = false := by simp; omega
  have t3 : ((s[0].toNat : Int) == 194) = false := by simp; omega
  clear h
  go_enter Tryd.func31, Tryd.ntmps31
  go_wp2
  go_ret3
  exact ⟨by rw [HR.out]; rfl, Below.refl _ _⟩
set_option maxRecDepth 20000 in
set_option maxHeartbeats 400000 in
theorem refInt_0short (s : ByteArray) (hs : 0 < s.size) (h : (s[0].toNat : Int) = 192) (h2 : s.size < 2) (w : World) :
    Calls Tryd.prog 31 #[.string s] w fun e w' => e = .returned (intT s.data.toList) ∧ Below w.heap.size w w' := by
  have he := full_str s hs
  have HR : Hid _ := intT_eq (ri_0short (head_tl s hs) h (by rw [list_len]; omega))
  have h2' : (s.size : Int) < 2 := by omega
  go_enter Tryd.func31, Tryd.ntmps31
  go_wp2
  go_ret3
  exact ⟨by rw [HR.out]; rfl, Below.refl _ _⟩
set_option maxRecDepth 20000 in
set_option maxHeartbeats 400000 in
theorem refInt_0ok (s : ByteArray) (hs : 0 < s.size) (h : (s[0].toNat : Int) = 192) (h2 : 2 ≤ s.size)  (w : World) :
    Calls Tryd.prog 31 #[.string s] w fun e w' => e = .returned (intT s.data.toList) ∧ Below w.heap.size w w' := by
  have he := full_str s hs
  have HR : Hid _ := intT_eq (ri_0 (head_tl s hs) h (by rw [list_len]; omega))
  have hrg := sgn1_range ((tl s.data.toList).take 1) (by rw [List.length_take, tl_length, list_len]; omega)
  have h2' : 2 ≤ (s.size : Int) := by omega
  have HL : Hid (-128 ≤ sgn 256 (num ((tl s.data.toList).take 1)) ∧ sgn 256 (num ((tl s.data.toList).take 1)) < 128) := hrg
  have hq : ((intB (sgn 256 (num ((tl s.data.toList).take 1)))).toList == (s.extract 0 2).toList) = true := by
    apply str_same
    rw [intB_list, ext_cons s hs 1, intL_0 HL.out, le_num1 _ (by rw [List.length_take, tl_length, list_len]; omega), show s[0] = 192 from UInt8.toNat_inj.1 (by show s[0].toNat = 192; omega)]
  have HV := signed_at1 s h2
  clear hrg
  generalize sgn 256 (num ((tl s.data.toList).take 1)) = x at *
  have HV' : Hid _ := HV
  clear HV
  go_enter Tryd.func31, Tryd.ntmps31
  go_wp2_with fail
  refine (HV'.out _).mono ?_
  rintro e w1 ⟨rfl, rfl⟩
  go_wp2_with fail
  refine (refPutInt_0 _ HL.out.1 HL.out.2 _).mono ?_
  rintro e w1 ⟨rfl, hb2⟩
  go_wp2
  go_ret3
  exact ⟨by rw [HR.out]; rfl, hb2⟩
set_option maxRecDepth 20000 in
set_option maxHeartbeats 400000 in
theorem refInt_1short (s : ByteArray) (hs : 0 < s.size) (h : (s[0].toNat : Int) = 193) (h2 : s.size < 3) (w : World) :
    Calls Tryd.prog 31 #[.string s] w fun e w' => e = .returned (intT s.data.toList) ∧ Below w.heap.size w w' := by
  have he := full_str s hs
  have HR : Hid _ := intT_eq (ri_1short (head_tl s hs) h (by rw [list_len]; omega))
  have h2' : (s.size : Int) < 3 := by omega
  go_enter Tryd.func31, Tryd.ntmps31
  go_wp2
  go_ret3
  exact ⟨by rw [HR.out]; rfl, Below.refl _ _⟩
set_option maxRecDepth 20000 in
set_option maxHeartbeats 400000 in
theorem refInt_1ok (s : ByteArray) (hs : 0 < s.size) (h : (s[0].toNat : Int) = 193) (h2 : 3 ≤ s.size) (hv : leastF (sgn 65536 (num ((tl s.data.toList).take 2))) = 1) (w : World) :
    Calls Tryd.prog 31 #[.string s] w fun e w' => e = .returned (intT s.data.toList) ∧ Below w.heap.size w w' := by
  have he := full_str s hs
  have HR : Hid _ := intT_eq ((ri_1 (head_tl s hs) h (by rw [list_len]; omega)).trans (if_pos hv))
  have hrg := sgn2_range ((tl s.data.toList).take 2) (by rw [List.length_take, tl_length, list_len]; omega)
  have h2' : 3 ≤ (s.size : Int) := by omega
  have HL : Hid (¬ (-128 ≤ sgn 65536 (num ((tl s.data.toList).take 2)) ∧ sgn 65536 (num ((tl s.data.toList).take 2)) < 128) ∧ (-32768 ≤ sgn 65536 (num ((tl s.data.toList).take 2)) ∧ sgn 65536 (num ((tl s.data.toList).take 2)) < 32768)) := least_eq1 hv
  have hq : ((intB (sgn 65536 (num ((tl s.data.toList).take 2)))).toList == (s.extract 0 3).toList) = true := by
    apply str_same
    rw [intB_list, ext_cons s hs 2, intL_1 HL.out.1 HL.out.2, le_num2 _ (by rw [List.length_take, tl_length, list_len]; omega), show s[0] = 193 from UInt8.toNat_inj.1 (by show s[0].toNat = 193; omega)]
  have HV := signed_at2 s h2
  clear hrg hv
  generalize sgn 65536 (num ((tl s.data.toList).take 2)) = x at *
  have HV' : Hid _ := HV
  clear HV
  go_enter Tryd.func31, Tryd.ntmps31
  go_wp2_with fail
  refine (HV'.out _).mono ?_
  rintro e w1 ⟨rfl, rfl⟩
  go_wp2_with fail
  refine (refPutInt_1 _ HL.out.1 HL.out.2.1 HL.out.2.2 _).mono ?_
  rintro e w1 ⟨rfl, hb2⟩
  go_wp2
  go_ret3
  exact ⟨by rw [HR.out]; rfl, hb2⟩
set_option maxRecDepth 20000 in
set_option maxHeartbeats 400000 in
theorem refInt_1form (s : ByteArray) (hs : 0 < s.size) (h : (s[0].toNat : Int) = 193) (h2 : 3 ≤ s.size) (hv : -128 ≤ sgn 65536 (num ((tl s.data.toList).take 2)) ∧ sgn 65536 (num ((tl s.data.toList).take 2)) < 128) (w : World) :
    Calls Tryd.prog 31 #[.string s] w fun e w' => e = .returned (intT s.data.toList) ∧ Below w.heap.size w w' := by
  have he := full_str s hs
  have HR : Hid _ := intT_eq ((ri_1 (head_tl s hs) h (by rw [list_len]; omega)).trans (if_neg (by rw [least_0 hv]; omega)))
  have hrg := sgn2_range ((tl s.data.toList).take 2) (by rw [List.length_take, tl_length, list_len]; omega)
  have h2' : 3 ≤ (s.size : Int) := by omega
  have HL : Hid (-128 ≤ sgn 65536 (num ((tl s.data.toList).take 2)) ∧ sgn 65536 (num ((tl s.data.toList).take 2)) < 128) := hv
  have hq : ((intB (sgn 65536 (num ((tl s.data.toList).take 2)))).toList == (s.extract 0 3).toList) = false := by
    apply str_other; apply len_other
    rw [intB_list, intL_0 HL.out, list_len, ext_size s 3 h2, List.length_cons, leZ_length]
    omega
  have HV := signed_at2 s h2
  clear hrg hv
  generalize sgn 65536 (num ((tl s.data.toList).take 2)) = x at *
  have HV' : Hid _ := HV
  clear HV
  go_enter Tryd.func31, Tryd.ntmps31
  go_wp2_with fail
  refine (HV'.out _).mono ?_
  rintro e w1 ⟨rfl, rfl⟩
  go_wp2_with fail
  refine (refPutInt_0 _ HL.out.1 HL.out.2 _).mono ?_
  rintro e w1 ⟨rfl, hb2⟩
  go_wp2
  go_ret3
  exact ⟨by rw [HR.out]; rfl, hb2⟩
set_option maxRecDepth 20000 in
set_option maxHeartbeats 400000 in
theorem refInt_2short (s : ByteArray) (hs : 0 < s.size) (h : (s[0].toNat : Int) = 194) (h2 : s.size < 5) (w : World) :
    Calls Tryd.prog 31 #[.string s] w fun e w' => e = .returned (intT s.data.toList) ∧ Below w.heap.size w w' := by
  have he := full_str s hs
  have HR : Hid _ := intT_eq (ri_2short (head_tl s hs) h (by rw [list_len]; omega))
  have h2' : (s.size : Int) < 5 := by omega
  go_enter Tryd.func31, Tryd.ntmps31
  go_wp2
  go_ret3
  exact ⟨by rw [HR.out]; rfl, Below.refl _ _⟩
set_option maxRecDepth 20000 in
set_option maxHeartbeats 400000 in
theorem refInt_2ok (s : ByteArray) (hs : 0 < s.size) (h : (s[0].toNat : Int) = 194) (h2 : 5 ≤ s.size) (hv : leastF (sgn 4294967296 (num ((tl s.data.toList).take 4))) = 2) (w : World) :
    Calls Tryd.prog 31 #[.string s] w fun e w' => e = .returned (intT s.data.toList) ∧ Below w.heap.size w w' := by
  have he := full_str s hs
  have HR : Hid _ := intT_eq ((ri_2 (head_tl s hs) h (by rw [list_len]; omega)).trans (if_pos hv))
  have hrg := sgn4_range ((tl s.data.toList).take 4) (by rw [List.length_take, tl_length, list_len]; omega)
  have h2' : 5 ≤ (s.size : Int) := by omega
  have HL : Hid (¬ (-32768 ≤ sgn 4294967296 (num ((tl s.data.toList).take 4)) ∧ sgn 4294967296 (num ((tl s.data.toList).take 4)) < 32768) ∧ (-2147483648 ≤ sgn 4294967296 (num ((tl s.data.toList).take 4)) ∧ sgn 4294967296 (num ((tl s.data.toList).take 4)) < 2147483648)) := least_eq2 hv
  have hq : ((intB (sgn 4294967296 (num ((tl s.data.toList).take 4)))).toList == (s.extract 0 5).toList) = true := by
    apply str_same
    rw [intB_list, ext_cons s hs 4, intL_2 HL.out.1, le_num4 _ (by rw [List.length_take, tl_length, list_len]; omega), show s[0] = 194 from UInt8.toNat_inj.1 (by show s[0].toNat = 194; omega)]
  have HV := signed_at4 s h2
  clear hrg hv
  generalize sgn 4294967296 (num ((tl s.data.toList).take 4)) = x at *
  have HV' : Hid _ := HV
  clear HV
  go_enter Tryd.func31, Tryd.ntmps31
  go_wp2_with fail
  refine (HV'.out _).mono ?_
  rintro e w1 ⟨rfl, rfl⟩
  go_wp2_with fail
  refine (refPutInt_2 _ HL.out.1 HL.out.2.1 HL.out.2.2 _).mono ?_
  rintro e w1 ⟨rfl, hb2⟩
  go_wp2
  go_ret3
  exact ⟨by rw [HR.out]; rfl, hb2⟩
set_option maxRecDepth 20000 in
set_option maxHeartbeats 400000 in
theorem refInt_2form0 (s : ByteArray) (hs : 0 < s.size) (h : (s[0].toNat : Int) = 194) (h2 : 5 ≤ s.size) (hv : -128 ≤ sgn 4294967296 (num ((tl s.data.toList).take 4)) ∧ sgn 4294967296 (num ((tl s.data.toList).take 4)) < 128) (w : World) :
    Calls Tryd.prog 31 #[.string s] w fun e w' => e = .returned (intT s.data.toList) ∧ Below w.heap.size w w' := by
  have he := full_str s hs
  have HR : Hid _ := intT_eq ((ri_2 (head_tl s hs) h (by rw [list_len]; omega)).trans (if_neg (by rw [least_0 hv]; omega)))
  have hrg := sgn4_range ((tl s.data.toList).take 4) (by rw [List.length_take, tl_length, list_len]; omega)
  have h2' : 5 ≤ (s.size : Int) := by omega
  have HL : Hid (-128 ≤ sgn 4294967296 (num ((tl s.data.toList).take 4)) ∧ sgn 4294967296 (num ((tl s.data.toList).take 4)) < 128) := hv
  have hq : ((intB (sgn 4294967296 (num ((tl s.data.toList).take 4)))).toList == (s.extract 0 5).toList) = false := by
    apply str_other; apply len_other
    rw [intB_list, intL_0 HL.out, list_len, ext_size s 5 h2, List.length_cons, leZ_length]
    omega
  have HV := signed_at4 s h2
  clear hrg hv
  generalize sgn 4294967296 (num ((tl s.data.toList).take 4)) = x at *
  have HV' : Hid _ := HV
  clear HV
  go_enter Tryd.func31, Tryd.ntmps31
  go_wp2_with fail
  refine (HV'.out _).mono ?_
  rintro e w1 ⟨rfl, rfl⟩
  go_wp2_with fail
  refine (refPutInt_0 _ HL.out.1 HL.out.2 _).mono ?_
  rintro e w1 ⟨rfl, hb2⟩
  go_wp2
  go_ret3
  exact ⟨by rw [HR.out]; rfl, hb2⟩
set_option maxRecDepth 20000 in
set_option maxHeartbeats 400000 in
theorem refInt_2form1 (s : ByteArray) (hs : 0 < s.size) (h : (s[0].toNat : Int) = 194) (h2 : 5 ≤ s.size) (hv : ¬ (-128 ≤ sgn 4294967296 (num ((tl s.data.toList).take 4)) ∧ sgn 4294967296 (num ((tl s.data.toList).take 4)) < 128)) (hv2 : -32768 ≤ sgn 4294967296 (num ((tl s.data.toList).take 4)) ∧ sgn 4294967296 (num ((tl s.data.toList).take 4)) < 32768) (w : World) :
    Calls Tryd.prog 31 #[.string s] w fun e w' => e = .returned (intT s.data.toList) ∧ Below w.heap.size w w' := by
  have he := full_str s hs
  have HR : Hid _ := intT_eq ((ri_2 (head_tl s hs) h (by rw [list_len]; omega)).trans (if_neg (by rw [least_1 hv hv2]; omega)))
  have hrg := sgn4_range ((tl s.data.toList).take 4) (by rw [List.length_take, tl_length, list_len]; omega)
  have h2' : 5 ≤ (s.size : Int) := by omega
  have HL : Hid (¬ (-128 ≤ sgn 4294967296 (num ((tl s.data.toList).take 4)) ∧ sgn 4294967296 (num ((tl s.data.toList).take 4)) < 128) ∧ (-32768 ≤ sgn 4294967296 (num ((tl s.data.toList).take 4)) ∧ sgn 4294967296 (num ((tl s.data.toList).take 4)) < 32768)) := ⟨hv, hv2⟩
  have hq : ((intB (sgn 4294967296 (num ((tl s.data.toList).take 4)))).toList == (s.extract 0 5).toList) = false := by
    apply str_other; apply len_other
    rw [intB_list, intL_1 HL.out.1 HL.out.2, list_len, ext_size s 5 h2, List.length_cons, leZ_length]
    omega
  have HV := signed_at4 s h2
  clear hrg hv hv2
  generalize sgn 4294967296 (num ((tl s.data.toList).take 4)) = x at *
  have HV' : Hid _ := HV
  clear HV
  go_enter Tryd.func31, Tryd.ntmps31
  go_wp2_with fail
  refine (HV'.out _).mono ?_
  rintro e w1 ⟨rfl, rfl⟩
  go_wp2_with fail
  refine (refPutInt_1 _ HL.out.1 HL.out.2.1 HL.out.2.2 _).mono ?_
  rintro e w1 ⟨rfl, hb2⟩
  go_wp2
  go_ret3
  exact ⟨by rw [HR.out]; rfl, hb2⟩
theorem refInt_any (s : ByteArray) (w : World) :
    Calls Tryd.prog 31 #[.string s] w fun e w' => e = .returned (intT s.data.toList) ∧ Below w.heap.size w w' := by
  by_cases hs0 : s.size = 0
  · rw [empty_str s hs0]; exact refInt_empty w
  · have hs : 0 < s.size := by omega
    by_cases c0 : (s[0].toNat : Int) = 192
    · by_cases d : s.size < 2
      · exact refInt_0short s hs c0 d w
      · exact refInt_0ok s hs c0 (by omega) w
    by_cases c1 : (s[0].toNat : Int) = 193
    · by_cases d : s.size < 3
      · exact refInt_1short s hs c1 d w
      · have hrg := sgn2_range ((tl s.data.toList).take 2) (by rw [List.length_take, tl_length, list_len]; omega)
        by_cases v : -128 ≤ sgn 65536 (num ((tl s.data.toList).take 2)) ∧ sgn 65536 (num ((tl s.data.toList).take 2)) < 128
        · exact refInt_1form s hs c1 (by omega) v w
        · exact refInt_1ok s hs c1 (by omega) (least_1 v hrg) w
    by_cases c2 : (s[0].toNat : Int) = 194
    · by_cases d : s.size < 5
      · exact refInt_2short s hs c2 d w
      · have hrg := sgn4_range ((tl s.data.toList).take 4) (by rw [List.length_take, tl_length, list_len]; omega)
        by_cases v : -128 ≤ sgn 4294967296 (num ((tl s.data.toList).take 4)) ∧ sgn 4294967296 (num ((tl s.data.toList).take 4)) < 128
        · exact refInt_2form0 s hs c2 (by omega) v w
        · by_cases v2 : -32768 ≤ sgn 4294967296 (num ((tl s.data.toList).take 4)) ∧ sgn 4294967296 (num ((tl s.data.toList).take 4)) < 32768
          · exact refInt_2form1 s hs c2 (by omega) v v2 w
          · exact refInt_2ok s hs c2 (by omega) (least_2 v2 hrg) w
    exact refInt_bad s hs (by omega) w
end Go.Proofs.YtcnicdcjdieodaaDoor
