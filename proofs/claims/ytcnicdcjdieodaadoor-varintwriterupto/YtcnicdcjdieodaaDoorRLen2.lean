import Derived.Test.YtcnicdcjdieodaaDoorRLen
namespace Go.Proofs.YtcnicdcjdieodaaDoor
open Go.RowKit Vi
set_option linter.unusedVariables false

theorem lenB_list (n : Int) : (lenB n).data.toList = lenL n := by unfold lenB; simp
theorem str_same {a b : ByteArray} (h : a.data.toList = b.data.toList) : (a.toList == b.toList) = true := by
  rw [ByteArray.toList_eq, ByteArray.toList_eq, h]; simp
theorem str_other {a b : ByteArray} (h : a.data.toList ≠ b.data.toList) : (a.toList == b.toList) = false := by
  rw [ByteArray.toList_eq, ByteArray.toList_eq]; simpa using h
theorem len_other {a b : List UInt8} (h : a.length ≠ b.length) : a ≠ b := fun e => h (by rw [e])
theorem ext1_list (s : ByteArray) (k : Nat) : (s.extract 1 (k + 1)).data.toList = (tl s.data.toList).take k := by
  rw [ByteArray.data_extract]; unfold tl
  simp [Array.toList_extract, List.extract_eq_take_drop]
theorem ext1_size (s : ByteArray) (k : Nat) (h : k + 1 ≤ s.size) : (s.extract 1 (k + 1)).size = k := by
  rw [ByteArray.size_extract]; omega
theorem ext_cons (s : ByteArray) (hs : 0 < s.size) (k : Nat) : (s.extract 0 (k + 1)).data.toList = s[0] :: (tl s.data.toList).take k := by
  rw [ext_list]
  conv => lhs; rw [head_tl s hs]
  rfl
theorem two_back (a b : UInt8) (h0 : 64 ≤ ((a.toNat * 256 + b.toNat : Nat) : Int) - 16384) (h1 : (a.toNat : Int) < 128) : lenL (((a.toNat * 256 + b.toNat : Nat) : Int) - 16384) = [a, b] := by
  have hb := b.toNat_lt
  unfold lenL
  rw [if_neg (by omega), if_pos (by omega)]
  have e : ((a.toNat * 256 + b.toNat : Nat) : Int) - (16384 : Int) + (16384 : Int) = (a.toNat : Int) * 256 + b.toNat := by omega
  rw [e, be_two]
theorem value_at (s : ByteArray) (k : Nat) (hk : k ≤ 8) (h : k + 1 ≤ s.size) (w : World) :
    Calls Tryd.prog 44 #[.string (s.extract 1 (k + 1))] w fun e w' => e = .returned (.int .i64 (valR (val ((tl s.data.toList).take k)))) ∧ w' = w := by
  have := value_any (s.extract 1 (k + 1)) (by rw [ext1_size s k h]; omega) w
  rw [ext1_list] at this
  exact this
set_option maxRecDepth 20000 in
set_option maxHeartbeats 400000 in
theorem refLen_2short (s : ByteArray) (hs : 0 < s.size) (h0 : 64 ≤ (s[0].toNat : Int)) (h : (s[0].toNat : Int) < 128) (h2 : s.size < 2) (w : World) :
    Calls Tryd.prog 30 #[.string s] w fun e w' => e = .returned (lenT s.data.toList) ∧ Below w.heap.size w w' := by
  have he := full_str s hs
  have hwb := wrap_b s[0]
  have HR : Hid _ := lenT_eq (rl_2short (head_tl s hs) h0 h (by rw [list_len]; omega))
  have t1 : decide ((s[0].toNat : Int) < 64) = false := by simp; omega
  have t2 : decide ((s[0].toNat : Int) < 128) = true := by simpa using h
  clear h0 h
  go_enter Tryd.func30, Tryd.ntmps30
  go_wp2
  ((try simp only [Exit.inBlock, Exit.then]); refine bodyPost_ret (results_tmp4 rfl _ _ _) rfl ?_)
  exact ⟨by rw [HR.out]; rfl, Below.refl _ _⟩
set_option maxRecDepth 20000 in
set_option maxHeartbeats 400000 in
theorem refLen_2form (s : ByteArray) (hs : 0 < s.size) (h0 : 64 ≤ (s[0].toNat : Int)) (h : (s[0].toNat : Int) < 128) (h2 : 2 ≤ s.size) (hv : ((s[0].toNat % 64) * 256 + s[1].toNat : Nat) < 64) (w : World) :
    Calls Tryd.prog 30 #[.string s] w fun e w' => e = .returned (lenT s.data.toList) ∧ Below w.heap.size w w' := by
  have he := full_str s hs
  have hwb := wrap_b s[0]
  have HR : Hid _ := lenT_eq ((rl_2 (head_tl s hs) h0 h (by rw [list_len]; omega) s[1] (by rw [tail_take s.data.toList 0 s[1] (at_list s 1 (by omega))]; rfl)).trans (if_pos hv))
  have HV : Hid _ := value_at2 s h2
  have hb1 := s[1].toNat_lt
  have HE : Hid ((((s[0].toNat % 64) * 256 + s[1].toNat : Nat) : Int) = ((s[0].toNat * 256 + s[1].toNat : Nat) : Int) - 16384) := by show _ = _; omega
  have g1 : 0 ≤ ((s[0].toNat * 256 + s[1].toNat : Nat) : Int) - 16384 := by omega
  have g2 : ((s[0].toNat * 256 + s[1].toNat : Nat) : Int) - 16384 < 16384 := by omega
  have hq : ((lenB (((s[0].toNat * 256 + s[1].toNat : Nat) : Int) - 16384)).toList == (s.extract 0 2).toList) = false := str_other (len_other (by rw [lenB_list, lenL_length, if_pos (by omega), list_len, ext_size s 2 h2]; omega))
  have h2' : 2 ≤ (s.size : Int) := by omega
  have t1 : decide ((s[0].toNat : Int) < 64) = false := by simp; omega
  have t2 : decide ((s[0].toNat : Int) < 128) = true := by simpa using h
  clear hv h0 h hb1
  generalize ((s[0].toNat * 256 + s[1].toNat : Nat) : Int) = x at *
  go_enter Tryd.func30, Tryd.ntmps30
  go_wp2_with fail
  refine (HV.out _).mono ?_
  rintro e w1 ⟨rfl, rfl⟩
  go_wp2_with fail
  refine (refPutLen_ok (x - 16384) (by omega) (by omega) _).mono ?_
  rintro e w1 ⟨rfl, hb2⟩
  go_wp2
  ((try simp only [Exit.inBlock, Exit.then]); refine bodyPost_ret (results_tmp4 rfl _ _ _) rfl ?_)
  exact ⟨by rw [HR.out]; rfl, hb2⟩
set_option maxRecDepth 20000 in
set_option maxHeartbeats 400000 in
theorem refLen_2ok (s : ByteArray) (hs : 0 < s.size) (h0 : 64 ≤ (s[0].toNat : Int)) (h : (s[0].toNat : Int) < 128) (h2 : 2 ≤ s.size) (hv : ¬ ((s[0].toNat % 64) * 256 + s[1].toNat : Nat) < 64) (w : World) :
    Calls Tryd.prog 30 #[.string s] w fun e w' => e = .returned (lenT s.data.toList) ∧ Below w.heap.size w w' := by
  have he := full_str s hs
  have hwb := wrap_b s[0]
  have HR : Hid _ := lenT_eq ((rl_2 (head_tl s hs) h0 h (by rw [list_len]; omega) s[1] (by rw [tail_take s.data.toList 0 s[1] (at_list s 1 (by omega))]; rfl)).trans (if_neg hv))
  have HV : Hid _ := value_at2 s h2
  have hb1 := s[1].toNat_lt
  have HE : Hid ((((s[0].toNat % 64) * 256 + s[1].toNat : Nat) : Int) = ((s[0].toNat * 256 + s[1].toNat : Nat) : Int) - 16384) := by show _ = _; omega
  have g1 : 0 ≤ ((s[0].toNat * 256 + s[1].toNat : Nat) : Int) - 16384 := by omega
  have g2 : ((s[0].toNat * 256 + s[1].toNat : Nat) : Int) - 16384 < 16384 := by omega
  have hq : ((lenB (((s[0].toNat * 256 + s[1].toNat : Nat) : Int) - 16384)).toList == (s.extract 0 2).toList) = true := by
    apply str_same
    rw [lenB_list, ext_cons s hs 1, tail_take s.data.toList 0 s[1] (at_list s 1 (by omega))]
    rw [two_back s[0] s[1] (by omega) (by omega)]
    rfl
  have h2' : 2 ≤ (s.size : Int) := by omega
  have t1 : decide ((s[0].toNat : Int) < 64) = false := by simp; omega
  have t2 : decide ((s[0].toNat : Int) < 128) = true := by simpa using h
  clear hv h0 h hb1
  generalize ((s[0].toNat * 256 + s[1].toNat : Nat) : Int) = x at *
  go_enter Tryd.func30, Tryd.ntmps30
  go_wp2_with fail
  refine (HV.out _).mono ?_
  rintro e w1 ⟨rfl, rfl⟩
  go_wp2_with fail
  refine (refPutLen_ok (x - 16384) (by omega) (by omega) _).mono ?_
  rintro e w1 ⟨rfl, hb2⟩
  go_wp2
  ((try simp only [Exit.inBlock, Exit.then]); refine bodyPost_ret (results_tmp4 rfl _ _ _) rfl ?_)
  exact ⟨by rw [HR.out, HE.out]; rfl, hb2⟩
set_option maxRecDepth 20000 in
set_option maxHeartbeats 400000 in
theorem refLen_5short (s : ByteArray) (hs : 0 < s.size) (h : (s[0].toNat : Int) = 128) (h2 : s.size < 5) (w : World) :
    Calls Tryd.prog 30 #[.string s] w fun e w' => e = .returned (lenT s.data.toList) ∧ Below w.heap.size w w' := by
  have he := full_str s hs
  have hwb := wrap_b s[0]
  have HR : Hid _ := lenT_eq (rl_5short (head_tl s hs) h (by rw [list_len]; omega))
  have h2' : (s.size : Int) < 5 := by omega
  go_enter Tryd.func30, Tryd.ntmps30
  go_wp2
  ((try simp only [Exit.inBlock, Exit.then]); refine bodyPost_ret (results_tmp4 rfl _ _ _) rfl ?_)
  exact ⟨by rw [HR.out]; rfl, Below.refl _ _⟩
set_option maxRecDepth 20000 in
set_option maxHeartbeats 400000 in
theorem refLen_5form (s : ByteArray) (hs : 0 < s.size) (h : (s[0].toNat : Int) = 128) (h2 : 5 ≤ s.size) (hv : val ((tl s.data.toList).take 4) < 16384) (w : World) :
    Calls Tryd.prog 30 #[.string s] w fun e w' => e = .returned (lenT s.data.toList) ∧ Below w.heap.size w w' := by
  have he := full_str s hs
  have hwb := wrap_b s[0]
  have HR : Hid _ := lenT_eq ((rl_5 (head_tl s hs) h (by rw [list_len]; omega)).trans (if_pos hv))
  have hvb := val_lt 4 ((tl s.data.toList).take 4) (by rw [List.length_take, tl_length, list_len]; omega)
  have HV := value_at s 4 (by omega) h2
  have h2' : 5 ≤ (s.size : Int) := by omega
  rw [valR_ok (by omega)] at HV
  have g1 : 0 ≤ (val ((tl s.data.toList).take 4) : Int) := by omega
  have g2 : (val ((tl s.data.toList).take 4) : Int) ≤ 4611686018427387904 := by omega
  have hq : ((lenB (val ((tl s.data.toList).take 4) : Int)).toList == (s.extract 0 5).toList) = false := by
    apply str_other; apply len_other
    rw [lenB_list, lenL_length, list_len, ext_size s 5 h2]
    by_cases c1 : (val ((tl s.data.toList).take 4) : Int) < 64
    · rw [if_pos c1]; omega
    · rw [if_neg c1]
      by_cases c2 : (val ((tl s.data.toList).take 4) : Int) < 16384
      · rw [if_pos c2]; omega
      · omega
  clear hvb hv
  generalize (val ((tl s.data.toList).take 4) : Int) = x at *
  have HV' : Hid _ := HV
  clear HV
  go_enter Tryd.func30, Tryd.ntmps30
  go_wp2_with fail
  refine (HV'.out _).mono ?_
  rintro e w1 ⟨rfl, rfl⟩
  go_wp2_with fail
  refine (refPutLen_ok x g1 g2 _).mono ?_
  rintro e w1 ⟨rfl, hb2⟩
  go_wp2
  ((try simp only [Exit.inBlock, Exit.then]); refine bodyPost_ret (results_tmp4 rfl _ _ _) rfl ?_)
  exact ⟨by rw [HR.out]; rfl, hb2⟩
set_option maxRecDepth 20000 in
set_option maxHeartbeats 400000 in
theorem refLen_5ok (s : ByteArray) (hs : 0 < s.size) (h : (s[0].toNat : Int) = 128) (h2 : 5 ≤ s.size) (hv : ¬ val ((tl s.data.toList).take 4) < 16384) (w : World) :
    Calls Tryd.prog 30 #[.string s] w fun e w' => e = .returned (lenT s.data.toList) ∧ Below w.heap.size w w' := by
  have he := full_str s hs
  have hwb := wrap_b s[0]
  have HR : Hid _ := lenT_eq ((rl_5 (head_tl s hs) h (by rw [list_len]; omega)).trans (if_neg hv))
  have hvb := val_lt 4 ((tl s.data.toList).take 4) (by rw [List.length_take, tl_length, list_len]; omega)
  have HV := value_at s 4 (by omega) h2
  have h2' : 5 ≤ (s.size : Int) := by omega
  rw [valR_ok (by omega)] at HV
  have g1 : 0 ≤ (val ((tl s.data.toList).take 4) : Int) := by omega
  have g2 : (val ((tl s.data.toList).take 4) : Int) ≤ 4611686018427387904 := by omega
  have hq : ((lenB (val ((tl s.data.toList).take 4) : Int)).toList == (s.extract 0 5).toList) = true := by
    apply str_same
    rw [lenB_list, ext_cons s hs 4]
    unfold lenL
    rw [if_neg (by omega), if_neg (by omega), if_pos (by omega), be_val4 _ (by rw [List.length_take, tl_length, list_len]; omega), show s[0] = 128 from UInt8.toNat_inj.1 (by show s[0].toNat = 128; omega)]
  clear hvb hv
  generalize (val ((tl s.data.toList).take 4) : Int) = x at *
  have HV' : Hid _ := HV
  clear HV
  go_enter Tryd.func30, Tryd.ntmps30
  go_wp2_with fail
  refine (HV'.out _).mono ?_
  rintro e w1 ⟨rfl, rfl⟩
  go_wp2_with fail
  refine (refPutLen_ok x g1 g2 _).mono ?_
  rintro e w1 ⟨rfl, hb2⟩
  go_wp2
  ((try simp only [Exit.inBlock, Exit.then]); refine bodyPost_ret (results_tmp4 rfl _ _ _) rfl ?_)
  exact ⟨by rw [HR.out]; rfl, hb2⟩
set_option maxRecDepth 20000 in
set_option maxHeartbeats 400000 in
theorem refLen_9short (s : ByteArray) (hs : 0 < s.size) (h : (s[0].toNat : Int) = 129) (h2 : s.size < 9) (w : World) :
    Calls Tryd.prog 30 #[.string s] w fun e w' => e = .returned (lenT s.data.toList) ∧ Below w.heap.size w w' := by
  have he := full_str s hs
  have hwb := wrap_b s[0]
  have HR : Hid _ := lenT_eq (rl_9short (head_tl s hs) h (by rw [list_len]; omega))
  have h2' : (s.size : Int) < 9 := by omega
  go_enter Tryd.func30, Tryd.ntmps30
  go_wp2
  ((try simp only [Exit.inBlock, Exit.then]); refine bodyPost_ret (results_tmp4 rfl _ _ _) rfl ?_)
  exact ⟨by rw [HR.out]; rfl, Below.refl _ _⟩
set_option maxRecDepth 20000 in
set_option maxHeartbeats 400000 in
theorem refLen_9form (s : ByteArray) (hs : 0 < s.size) (h : (s[0].toNat : Int) = 129) (h2 : 9 ≤ s.size) (hv : val ((tl s.data.toList).take 8) < 4294967296) (w : World) :
    Calls Tryd.prog 30 #[.string s] w fun e w' => e = .returned (lenT s.data.toList) ∧ Below w.heap.size w w' := by
  have he := full_str s hs
  have hwb := wrap_b s[0]
  have HR : Hid _ := lenT_eq ((rl_9 (head_tl s hs) h (by rw [list_len]; omega)).trans (if_pos (Or.inl hv)))
  have hvb := val_lt 8 ((tl s.data.toList).take 8) (by rw [List.length_take, tl_length, list_len]; omega)
  have HV := value_at s 8 (by omega) h2
  have h2' : 9 ≤ (s.size : Int) := by omega
  rw [valR_ok (by omega)] at HV
  have g1 : 0 ≤ (val ((tl s.data.toList).take 8) : Int) := by omega
  have g2 : (val ((tl s.data.toList).take 8) : Int) ≤ 4611686018427387904 := by omega
  have hq : ((lenB (val ((tl s.data.toList).take 8) : Int)).toList == (s.extract 0 9).toList) = false := by
    apply str_other; apply len_other
    rw [lenB_list, lenL_length, list_len, ext_size s 9 h2]
    by_cases c1 : (val ((tl s.data.toList).take 8) : Int) < 64
    · rw [if_pos c1]; omega
    · rw [if_neg c1]
      by_cases c2 : (val ((tl s.data.toList).take 8) : Int) < 16384
      · rw [if_pos c2]; omega
      · rw [if_neg c2, if_pos (by omega)]; omega
  clear hvb hv
  generalize (val ((tl s.data.toList).take 8) : Int) = x at *
  have HV' : Hid _ := HV
  clear HV
  go_enter Tryd.func30, Tryd.ntmps30
  go_wp2_with fail
  refine (HV'.out _).mono ?_
  rintro e w1 ⟨rfl, rfl⟩
  go_wp2_with fail
  refine (refPutLen_ok x g1 g2 _).mono ?_
  rintro e w1 ⟨rfl, hb2⟩
  go_wp2
  ((try simp only [Exit.inBlock, Exit.then]); refine bodyPost_ret (results_tmp4 rfl _ _ _) rfl ?_)
  exact ⟨by rw [HR.out]; rfl, hb2⟩
set_option maxRecDepth 20000 in
set_option maxHeartbeats 400000 in
theorem refLen_9ok (s : ByteArray) (hs : 0 < s.size) (h : (s[0].toNat : Int) = 129) (h2 : 9 ≤ s.size) (hv : ¬ val ((tl s.data.toList).take 8) < 4294967296) (hg : ¬ 4611686018427387904 < val ((tl s.data.toList).take 8)) (w : World) :
    Calls Tryd.prog 30 #[.string s] w fun e w' => e = .returned (lenT s.data.toList) ∧ Below w.heap.size w w' := by
  have he := full_str s hs
  have hwb := wrap_b s[0]
  have HR : Hid _ := lenT_eq ((rl_9 (head_tl s hs) h (by rw [list_len]; omega)).trans (if_neg (by omega)))
  have hvb := val_lt 8 ((tl s.data.toList).take 8) (by rw [List.length_take, tl_length, list_len]; omega)
  have HV := value_at s 8 (by omega) h2
  have h2' : 9 ≤ (s.size : Int) := by omega
  rw [valR_ok (by omega)] at HV
  have g1 : 0 ≤ (val ((tl s.data.toList).take 8) : Int) := by omega
  have g2 : (val ((tl s.data.toList).take 8) : Int) ≤ 4611686018427387904 := by omega
  have hq : ((lenB (val ((tl s.data.toList).take 8) : Int)).toList == (s.extract 0 9).toList) = true := by
    apply str_same
    rw [lenB_list, ext_cons s hs 8]
    unfold lenL
    rw [if_neg (by omega), if_neg (by omega), if_neg (by omega), be_val8 _ (by rw [List.length_take, tl_length, list_len]; omega), show s[0] = 129 from UInt8.toNat_inj.1 (by show s[0].toNat = 129; omega)]
  clear hvb hv hg
  generalize (val ((tl s.data.toList).take 8) : Int) = x at *
  have HV' : Hid _ := HV
  clear HV
  go_enter Tryd.func30, Tryd.ntmps30
  go_wp2_with fail
  refine (HV'.out _).mono ?_
  rintro e w1 ⟨rfl, rfl⟩
  go_wp2_with fail
  refine (refPutLen_ok x g1 g2 _).mono ?_
  rintro e w1 ⟨rfl, hb2⟩
  go_wp2
  ((try simp only [Exit.inBlock, Exit.then]); refine bodyPost_ret (results_tmp4 rfl _ _ _) rfl ?_)
  exact ⟨by rw [HR.out]; rfl, hb2⟩
set_option maxRecDepth 20000 in
set_option maxHeartbeats 400000 in
theorem refLen_9big (s : ByteArray) (hs : 0 < s.size) (h : (s[0].toNat : Int) = 129) (h2 : 9 ≤ s.size) (hg : 4611686018427387904 < val ((tl s.data.toList).take 8)) (w : World) :
    Calls Tryd.prog 30 #[.string s] w fun e w' => e = .returned (lenT s.data.toList) ∧ Below w.heap.size w w' := by
  have he := full_str s hs
  have hwb := wrap_b s[0]
  have HR : Hid _ := lenT_eq ((rl_9 (head_tl s hs) h (by rw [list_len]; omega)).trans (if_pos (Or.inr hg)))
  have hvb := val_lt 8 ((tl s.data.toList).take 8) (by rw [List.length_take, tl_length, list_len]; omega)
  have HV := value_at s 8 (by omega) h2
  have h2' : 9 ≤ (s.size : Int) := by omega
  rw [valR_no hg] at HV
  have HV' : Hid _ := HV
  clear HV hg hvb
  go_enter Tryd.func30, Tryd.ntmps30
  go_wp2_with fail
  refine (HV'.out _).mono ?_
  rintro e w1 ⟨rfl, rfl⟩
  go_wp2_with fail
  refine (refPutLen_bad (-1) (Or.inl (by omega)) _).mono ?_
  rintro e w1 ⟨rfl, rfl⟩
  go_wp2
  ((try simp only [Exit.inBlock, Exit.then]); refine bodyPost_ret (results_tmp4 rfl _ _ _) rfl ?_)
  exact ⟨by rw [HR.out]; rfl, Below.refl _ _⟩
set_option maxRecDepth 20000 in
set_option maxHeartbeats 400000 in
theorem refLen_sp (s : ByteArray) (hs : 0 < s.size) (h0 : 192 ≤ (s[0].toNat : Int)) (h1 : (s[0].toNat : Int) ≤ 195) (w : World) :
    Calls Tryd.prog 30 #[.string s] w fun e w' => e = .returned (lenT s.data.toList) ∧ Below w.heap.size w w' := by
  have he := full_str s hs
  have hwb := wrap_b s[0]
  have HR : Hid _ := lenT_eq ((rl_sp' (head_tl s hs) h0 h1).trans (show (⟨0, 1, (s[0].toNat : Int) - 191, 0⟩ : LenR) = ⟨0, 1, wrap64 ((s[0].toNat : Int) - 191), 0⟩ by rw [show wrap64 ((s[0].toNat : Int) - 191) = (s[0].toNat : Int) - 191 by unfold wrap64; omega]))
  have t0 : decide ((s[0].toNat : Int) < 64) = false := by simp; omega
  have t1 : decide ((s[0].toNat : Int) < 128) = false := by simp; omega
  have t2 : ((s[0].toNat : Int) == 128) = false := by simp; omega
  have t3 : ((s[0].toNat : Int) == 129) = false := by simp; omega
  have t4 : decide ((192 : Int) ≤ (s[0].toNat : Int)) = true := by simpa using h0
  have t5 : decide ((s[0].toNat : Int) ≤ 195) = true := by simpa using h1
  clear h0 h1
  go_enter Tryd.func30, Tryd.ntmps30
  go_wp2
  ((try simp only [Exit.inBlock, Exit.then]); refine bodyPost_ret (results_tmp4 rfl _ _ _) rfl ?_)
  exact ⟨by rw [HR.out]; rfl, Below.refl _ _⟩
set_option maxRecDepth 20000 in
set_option maxHeartbeats 400000 in
theorem refLen_bad (s : ByteArray) (hs : 0 < s.size) (h0 : 130 ≤ (s[0].toNat : Int)) (h1 : (s[0].toNat : Int) < 192) (w : World) :
    Calls Tryd.prog 30 #[.string s] w fun e w' => e = .returned (lenT s.data.toList) ∧ Below w.heap.size w w' := by
  have he := full_str s hs
  have hwb := wrap_b s[0]
  have HR : Hid _ := lenT_eq (rl_bad (head_tl s hs) h0 (Or.inl h1))
  have t0 : decide ((s[0].toNat : Int) < 64) = false := by simp; omega
  have t1 : decide ((s[0].toNat : Int) < 128) = false := by simp; omega
  have t2 : ((s[0].toNat : Int) == 128) = false := by simp; omega
  have t3 : ((s[0].toNat : Int) == 129) = false := by simp; omega
  have t4 : decide ((192 : Int) ≤ (s[0].toNat : Int)) = false := by simp; omega
  clear h0 h1
  go_enter Tryd.func30, Tryd.ntmps30
  go_wp2
  ((try simp only [Exit.inBlock, Exit.then]); refine bodyPost_ret (results_tmp4 rfl _ _ _) rfl ?_)
  exact ⟨by rw [HR.out]; rfl, Below.refl _ _⟩
set_option maxRecDepth 20000 in
set_option maxHeartbeats 400000 in
theorem refLen_bad2 (s : ByteArray) (hs : 0 < s.size) (h1 : 195 < (s[0].toNat : Int)) (w : World) :
    Calls Tryd.prog 30 #[.string s] w fun e w' => e = .returned (lenT s.data.toList) ∧ Below w.heap.size w w' := by
  have he := full_str s hs
  have hwb := wrap_b s[0]
  have HR : Hid _ := lenT_eq (rl_bad (head_tl s hs) (by omega) (Or.inr h1))
  have t0 : decide ((s[0].toNat : Int) < 64) = false := by simp; omega
  have t1 : decide ((s[0].toNat : Int) < 128) = false := by simp; omega
  have t2 : ((s[0].toNat : Int) == 128) = false := by simp; omega
  have t3 : ((s[0].toNat : Int) == 129) = false := by simp; omega
  have t4 : decide ((192 : Int) ≤ (s[0].toNat : Int)) = true := by simp; omega
  have t5 : decide ((s[0].toNat : Int) ≤ 195) = false := by simp; omega
  clear h1
  go_enter Tryd.func30, Tryd.ntmps30
  go_wp2
  ((try simp only [Exit.inBlock, Exit.then]); refine bodyPost_ret (results_tmp4 rfl _ _ _) rfl ?_)
  exact ⟨by rw [HR.out]; rfl, Below.refl _ _⟩
theorem refLen_any (s : ByteArray) (w : World) :
    Calls Tryd.prog 30 #[.string s] w fun e w' => e = .returned (lenT s.data.toList) ∧ Below w.heap.size w w' := by
  by_cases hs0 : s.size = 0
  · rw [empty_str s hs0]; exact refLen_empty w
  · have hs : 0 < s.size := by omega
    have hb := s[0].toNat_lt
    by_cases c1 : (s[0].toNat : Int) < 64
    · exact refLen_1 s hs c1 w
    by_cases c2 : (s[0].toNat : Int) < 128
    · by_cases d : s.size < 2
      · exact refLen_2short s hs (by omega) c2 d w
      · by_cases v : ((s[0].toNat % 64) * 256 + s[1].toNat : Nat) < 64
        · exact refLen_2form s hs (by omega) c2 (by omega) v w
        · exact refLen_2ok s hs (by omega) c2 (by omega) v w
    by_cases c3 : (s[0].toNat : Int) = 128
    · by_cases d : s.size < 5
      · exact refLen_5short s hs c3 d w
      · by_cases v : val ((tl s.data.toList).take 4) < 16384
        · exact refLen_5form s hs c3 (by omega) v w
        · exact refLen_5ok s hs c3 (by omega) v w
    by_cases c4 : (s[0].toNat : Int) = 129
    · by_cases d : s.size < 9
      · exact refLen_9short s hs c4 d w
      · by_cases v : val ((tl s.data.toList).take 8) < 4294967296
        · exact refLen_9form s hs c4 (by omega) v w
        · by_cases g : 4611686018427387904 < val ((tl s.data.toList).take 8)
          · exact refLen_9big s hs c4 (by omega) g w
          · exact refLen_9ok s hs c4 (by omega) v g w
    by_cases c5 : 192 ≤ (s[0].toNat : Int)
    · by_cases c6 : (s[0].toNat : Int) ≤ 195
      · exact refLen_sp s hs c5 c6 w
      · exact refLen_bad2 s hs (by omega) w
    · exact refLen_bad s hs (by omega) (by omega) w
end Go.Proofs.YtcnicdcjdieodaaDoor
