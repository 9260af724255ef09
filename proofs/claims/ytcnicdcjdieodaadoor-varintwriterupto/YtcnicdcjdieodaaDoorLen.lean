import Derived.Test.YtcnicdcjdieodaaDoorPut
import Derived.Test.YtcnicdcjdieodaaDoorLenCase
namespace Go.Proofs.YtcnicdcjdieodaaDoor
open Go.RowKit Vi
set_option linter.unusedVariables false

theorem head_tl (s : ByteArray) (h : 0 < s.size) : s.data.toList = s[0] :: tl s.data.toList := by
  have := drop_more s.data.toList 0 s[0] (at_list s 0 h)
  simpa [tl] using this
theorem ext_list (s : ByteArray) (k : Nat) : (s.extract 0 k).data.toList = s.data.toList.take k := by
  rw [ByteArray.data_extract]; simp
theorem ext_size (s : ByteArray) (k : Nat) (h : k ≤ s.size) : (s.extract 0 k).size = k := by
  rw [ByteArray.size_extract]; omega
theorem ext_get (s : ByteArray) (k j : Nat) (h : k ≤ s.size) (hj : j < k) : (s.extract 0 k)[j]'(by rw [ext_size s k h]; exact hj) = s[j] := by
  have h1 := at_list (s.extract 0 k) j (by rw [ext_size s k h]; exact hj)
  rw [ext_list, List.getElem?_take_of_lt hj, at_list s j (by omega)] at h1
  exact (Option.some.inj h1).symm
theorem ext_tl (s : ByteArray) (k : Nat) : tl (s.extract 0 (k + 1)).data.toList = (tl s.data.toList).take k := by
  rw [ext_list]; unfold tl; rw [List.drop_take]; rfl

theorem lenIn_at1 (s : ByteArray) (h : 1 ≤ s.size) (w : World) :
    Calls Tryd.prog 36 #[.string (s.extract 0 1)] w fun e w' => e = .returned (.int .u64 ((s[0].toNat % 64 : Nat) : Int)) ∧ w' = w := by
  have := lenIn_short (s.extract 0 1) (by rw [ext_size s 1 h]; omega) (by rw [ext_size s 1 h]; omega) w
  rw [ext_tl s 0, ext_get s 1 0 h (by omega)] at this
  exact this
theorem lenIn_at2 (s : ByteArray) (h : 2 ≤ s.size) (w : World) :
    Calls Tryd.prog 36 #[.string (s.extract 0 2)] w fun e w' => e = .returned (.int .u64 (((s[0].toNat % 64) * 256 + s[1].toNat : Nat) : Int)) ∧ w' = w := by
  have := lenIn_short (s.extract 0 2) (by rw [ext_size s 2 h]; omega) (by rw [ext_size s 2 h]; omega) w
  rw [ext_tl s 1, ext_get s 2 0 h (by omega), tail_take s.data.toList 0 s[1] (at_list s 1 (by omega))] at this
  exact this
theorem lenIn_at5 (s : ByteArray) (h : 5 ≤ s.size) (w : World) :
    Calls Tryd.prog 36 #[.string (s.extract 0 5)] w fun e w' => e = .returned (.int .u64 (val ((tl s.data.toList).take 4) : Int)) ∧ w' = w := by
  have := lenIn_long (s.extract 0 5) (by rw [ext_size s 5 h]; omega) (by rw [ext_size s 5 h]; omega) w
  rw [ext_tl s 4] at this
  exact this
theorem lenIn_at9 (s : ByteArray) (h : 9 ≤ s.size) (w : World) :
    Calls Tryd.prog 36 #[.string (s.extract 0 9)] w fun e w' => e = .returned (.int .u64 (val ((tl s.data.toList).take 8) : Int)) ∧ w' = w := by
  have := lenIn_long (s.extract 0 9) (by rw [ext_size s 9 h]; omega) (by rw [ext_size s 9 h]; omega) w
  rw [ext_tl s 8] at this
  exact this

theorem results_tmp4 {fn : Func} {t u v x : Tmp} (h : fn.results = #[.tmp t, .tmp u, .tmp v, .tmp x]) (tmps : Array Value) (P : Program) (w : World) :
    (results fn tmps).run P w = .ok (.tuple #[tmps.getD t undef, tmps.getD u undef, tmps.getD v undef, tmps.getD x undef]) w := by
  simp [results, h]
theorem full_str (s : ByteArray) (h : 0 < s.size) : s.toList.isEmpty = false := by
  rw [ByteArray.toList_eq, head_tl s h]; rfl
def lenT (l : List UInt8) : Value := .tuple #[.int .i64 (readLen l).n, .int .i64 (readLen l).size, .int .i64 (readLen l).special, .int .i64 (readLen l).err]
theorem lenT_eq {l : List UInt8} {r : LenR} (h : readLen l = r) : lenT l = .tuple #[.int .i64 r.n, .int .i64 r.size, .int .i64 r.special, .int .i64 r.err] := by unfold lenT; rw [h]
set_option maxHeartbeats 400000 in
theorem len_empty (w : World) :
    Calls Tryd.prog 10 #[.string ⟨#[]⟩] w fun e w' => e = .returned (lenT []) ∧ w' = w := by
  have HR : Hid _ := lenT_eq rl_nil
  go_enter Tryd.func10, Tryd.ntmps10
  go_wp2
  ((try simp only [Exit.inBlock, Exit.then]); refine bodyPost_ret (results_tmp4 rfl _ _ _) rfl ?_)
  exact ⟨by rw [HR.out]; rfl, rfl⟩
set_option maxHeartbeats 400000 in
theorem len_sp (s : ByteArray) (hs : 0 < s.size) (h0 : 192 ≤ (s[0].toNat : Int)) (h1 : (s[0].toNat : Int) ≤ 195) (w : World) :
    Calls Tryd.prog 10 #[.string s] w fun e w' => e = .returned (lenT s.data.toList) ∧ w' = w := by
  have he := full_str s hs
  have HR : Hid _ := lenT_eq (rl_sp (head_tl s hs) h0 h1)
  go_enter Tryd.func10, Tryd.ntmps10
  go_wp2_with fail
  refine (formOf_yes _ h0 h1 _).mono ?_
  rintro e w1 ⟨rfl, rfl⟩
  go_wp2
  ((try simp only [Exit.inBlock, Exit.then]); refine bodyPost_ret (results_tmp4 rfl _ _ _) rfl ?_)
  exact ⟨by rw [HR.out]; rfl, rfl⟩
set_option maxHeartbeats 400000 in
theorem len_bad (s : ByteArray) (hs : 0 < s.size) (h0 : 130 ≤ (s[0].toNat : Int)) (h1 : (s[0].toNat : Int) < 192 ∨ 195 < (s[0].toNat : Int)) (w : World) :
    Calls Tryd.prog 10 #[.string s] w fun e w' => e = .returned (lenT s.data.toList) ∧ w' = w := by
  have he := full_str s hs
  have HR : Hid _ := lenT_eq (rl_bad (head_tl s hs) h0 h1)
  have HF : Hid ((0 ≤ (s[0].toNat : Int) ∧ (s[0].toNat : Int) < 192) ∨ (196 ≤ (s[0].toNat : Int) ∧ (s[0].toNat : Int) ≤ 255)) := by have := s[0].toNat_lt; show _ ∨ _; omega
  have H0 : Hid (130 ≤ (s[0].toNat : Int)) := h0
  clear h0 h1
  go_enter Tryd.func10, Tryd.ntmps10
  go_wp2_with fail
  refine (formOf_no _ HF.out _).mono ?_
  rintro e w1 ⟨rfl, rfl⟩
  go_wp2_with fail
  refine (lenSize_0 _ H0.out _).mono ?_
  rintro e w1 ⟨rfl, rfl⟩
  go_wp2
  ((try simp only [Exit.inBlock, Exit.then]); refine bodyPost_ret (results_tmp4 rfl _ _ _) rfl ?_)
  exact ⟨by rw [HR.out]; rfl, rfl⟩
set_option maxHeartbeats 400000 in
theorem len_1 (s : ByteArray) (hs : 0 < s.size) (h : (s[0].toNat : Int) < 64) (w : World) :
    Calls Tryd.prog 10 #[.string s] w fun e w' => e = .returned (lenT s.data.toList) ∧ w' = w := by
  have he := full_str s hs
  have HR : Hid _ := lenT_eq (rl_1 (head_tl s hs) h)
  have HF : Hid ((0 ≤ (s[0].toNat : Int) ∧ (s[0].toNat : Int) < 192) ∨ (196 ≤ (s[0].toNat : Int) ∧ (s[0].toNat : Int) ≤ 255)) := by have := s[0].toNat_lt; show _ ∨ _; omega
  have H0 : Hid ((s[0].toNat : Int) < 64) := h
  have HL := lenIn_at1 s hs
  have HW := wayOf_any (s[0].toNat : Int)
  rw [(way_1 h).1, (way_1 h).2] at HW
  rw [show s[0].toNat % 64 = s[0].toNat by omega] at HL
  have hx0 : 0 ≤ (s[0].toNat : Int) := by omega
  have HL' : Hid _ := HL
  have HW' : Hid _ := HW
  clear HL HW
  go_enter Tryd.func10, Tryd.ntmps10
  go_wp2_with fail
  refine (formOf_no _ HF.out _).mono ?_
  rintro e w1 ⟨rfl, rfl⟩
  go_wp2_with fail
  refine (lenSize_1 _ hx0 H0.out _).mono ?_
  rintro e w1 ⟨rfl, rfl⟩
  go_wp2_with fail
  refine (HL'.out _).mono ?_
  rintro e w1 ⟨rfl, rfl⟩
  go_wp2_with fail
  refine (HW'.out _).mono ?_
  rintro e w1 ⟨rfl, rfl⟩
  go_wp2
  ((try simp only [Exit.inBlock, Exit.then]); refine bodyPost_ret (results_tmp4 rfl _ _ _) rfl ?_)
  exact ⟨by rw [HR.out]; rfl, rfl⟩
set_option maxHeartbeats 400000 in
theorem len_2short (s : ByteArray) (hs : 0 < s.size) (h0 : 64 ≤ (s[0].toNat : Int)) (h : (s[0].toNat : Int) < 128) (h2 : s.size < 2) (w : World) :
    Calls Tryd.prog 10 #[.string s] w fun e w' => e = .returned (lenT s.data.toList) ∧ w' = w := by
  have he := full_str s hs
  have HR : Hid _ := lenT_eq (rl_2short (head_tl s hs) h0 h (by rw [list_len]; omega))
  have HF : Hid ((0 ≤ (s[0].toNat : Int) ∧ (s[0].toNat : Int) < 192) ∨ (196 ≤ (s[0].toNat : Int) ∧ (s[0].toNat : Int) ≤ 255)) := by have := s[0].toNat_lt; show _ ∨ _; omega
  have H0 : Hid (64 ≤ (s[0].toNat : Int) ∧ (s[0].toNat : Int) < 128) := ⟨h0, h⟩
  clear h0 h
  go_enter Tryd.func10, Tryd.ntmps10
  go_wp2_with fail
  refine (formOf_no _ HF.out _).mono ?_
  rintro e w1 ⟨rfl, rfl⟩
  go_wp2_with fail
  refine (lenSize_2 _ H0.out.1 H0.out.2 _).mono ?_
  rintro e w1 ⟨rfl, rfl⟩
  go_wp2
  ((try simp only [Exit.inBlock, Exit.then]); refine bodyPost_ret (results_tmp4 rfl _ _ _) rfl ?_)
  exact ⟨by rw [HR.out]; rfl, rfl⟩
set_option maxHeartbeats 400000 in
theorem len_5short (s : ByteArray) (hs : 0 < s.size) (h : (s[0].toNat : Int) = 128) (h2 : s.size < 5) (w : World) :
    Calls Tryd.prog 10 #[.string s] w fun e w' => e = .returned (lenT s.data.toList) ∧ w' = w := by
  have he := full_str s hs
  have HR : Hid _ := lenT_eq (rl_5short (head_tl s hs) h (by rw [list_len]; omega))
  have HF : Hid ((0 ≤ (s[0].toNat : Int) ∧ (s[0].toNat : Int) < 192) ∨ (196 ≤ (s[0].toNat : Int) ∧ (s[0].toNat : Int) ≤ 255)) := by have := s[0].toNat_lt; show _ ∨ _; omega
  go_enter Tryd.func10, Tryd.ntmps10
  go_wp2_with fail
  refine (formOf_no 128 (Or.inl ⟨by omega, by omega⟩) _).mono ?_
  rintro e w1 ⟨rfl, rfl⟩
  go_wp2_with fail
  refine (lenSize_5 _).mono ?_
  rintro e w1 ⟨rfl, rfl⟩
  go_wp2
  ((try simp only [Exit.inBlock, Exit.then]); refine bodyPost_ret (results_tmp4 rfl _ _ _) rfl ?_)
  exact ⟨by rw [HR.out]; rfl, rfl⟩
set_option maxHeartbeats 400000 in
theorem len_9short (s : ByteArray) (hs : 0 < s.size) (h : (s[0].toNat : Int) = 129) (h2 : s.size < 9) (w : World) :
    Calls Tryd.prog 10 #[.string s] w fun e w' => e = .returned (lenT s.data.toList) ∧ w' = w := by
  have he := full_str s hs
  have HR : Hid _ := lenT_eq (rl_9short (head_tl s hs) h (by rw [list_len]; omega))
  have HF : Hid ((0 ≤ (s[0].toNat : Int) ∧ (s[0].toNat : Int) < 192) ∨ (196 ≤ (s[0].toNat : Int) ∧ (s[0].toNat : Int) ≤ 255)) := by have := s[0].toNat_lt; show _ ∨ _; omega
  go_enter Tryd.func10, Tryd.ntmps10
  go_wp2_with fail
  refine (formOf_no 129 (Or.inl ⟨by omega, by omega⟩) _).mono ?_
  rintro e w1 ⟨rfl, rfl⟩
  go_wp2_with fail
  refine (lenSize_9 _).mono ?_
  rintro e w1 ⟨rfl, rfl⟩
  go_wp2
  ((try simp only [Exit.inBlock, Exit.then]); refine bodyPost_ret (results_tmp4 rfl _ _ _) rfl ?_)
  exact ⟨by rw [HR.out]; rfl, rfl⟩
set_option maxHeartbeats 400000 in
theorem len_2form (s : ByteArray) (hs : 0 < s.size) (h0 : 64 ≤ (s[0].toNat : Int)) (h : (s[0].toNat : Int) < 128) (h2 : 2 ≤ s.size) (hv : ((s[0].toNat % 64) * 256 + s[1].toNat : Nat) < 64) (w : World) :
    Calls Tryd.prog 10 #[.string s] w fun e w' => e = .returned (lenT s.data.toList) ∧ w' = w := by
  have he := full_str s hs
  have HR : Hid _ := lenT_eq ((rl_2 (head_tl s hs) h0 h (by rw [list_len]; omega) s[1] (by rw [tail_take s.data.toList 0 s[1] (at_list s 1 (by omega))]; rfl)).trans (if_pos hv))
  have HF : Hid ((0 ≤ (s[0].toNat : Int) ∧ (s[0].toNat : Int) < 192) ∨ (196 ≤ (s[0].toNat : Int) ∧ (s[0].toNat : Int) ≤ 255)) := by have := s[0].toNat_lt; show _ ∨ _; omega
  have H0 : Hid (64 ≤ (s[0].toNat : Int) ∧ (s[0].toNat : Int) < 128) := ⟨h0, h⟩
  have HW := wayOf_any (((s[0].toNat % 64) * 256 + s[1].toNat : Nat) : Int)
  rw [(way_1 (n := (((s[0].toNat % 64) * 256 + s[1].toNat : Nat) : Int)) (by omega)).1, (way_1 (n := (((s[0].toNat % 64) * 256 + s[1].toNat : Nat) : Int)) (by omega)).2] at HW
  have hz1 : 0 ≤ (((s[0].toNat % 64) * 256 + s[1].toNat : Nat) : Int) := by omega
  have hz2 : (((s[0].toNat % 64) * 256 + s[1].toNat : Nat) : Int) < 16384 := by have := s[1].toNat_lt; omega
  have h2' : 2 ≤ (s.size : Int) := by omega
  have HL := lenIn_at2 s h2
  clear h0 h hv
  generalize (((s[0].toNat % 64) * 256 + s[1].toNat : Nat) : Int) = x at *
  have HG : Hid _ := HL
  clear HL
  have HW' : Hid _ := HW
  clear HW
  go_enter Tryd.func10, Tryd.ntmps10
  go_wp2_with fail
  refine (formOf_no _ HF.out _).mono ?_
  rintro e w1 ⟨rfl, rfl⟩
  go_wp2_with fail
  refine (lenSize_2 _ H0.out.1 H0.out.2 _).mono ?_
  rintro e w1 ⟨rfl, rfl⟩
  go_wp2_with fail
  refine (HG.out _).mono ?_
  rintro e w1 ⟨rfl, rfl⟩
  go_wp2_with fail
  refine (HW'.out _).mono ?_
  rintro e w1 ⟨rfl, rfl⟩
  go_wp2
  ((try simp only [Exit.inBlock, Exit.then]); refine bodyPost_ret (results_tmp4 rfl _ _ _) rfl ?_)
  exact ⟨by rw [HR.out]; rfl, rfl⟩
set_option maxHeartbeats 400000 in
theorem len_2ok (s : ByteArray) (hs : 0 < s.size) (h0 : 64 ≤ (s[0].toNat : Int)) (h : (s[0].toNat : Int) < 128) (h2 : 2 ≤ s.size) (hv : ¬ ((s[0].toNat % 64) * 256 + s[1].toNat : Nat) < 64) (w : World) :
    Calls Tryd.prog 10 #[.string s] w fun e w' => e = .returned (lenT s.data.toList) ∧ w' = w := by
  have he := full_str s hs
  have HR : Hid _ := lenT_eq ((rl_2 (head_tl s hs) h0 h (by rw [list_len]; omega) s[1] (by rw [tail_take s.data.toList 0 s[1] (at_list s 1 (by omega))]; rfl)).trans (if_neg hv))
  have HF : Hid ((0 ≤ (s[0].toNat : Int) ∧ (s[0].toNat : Int) < 192) ∨ (196 ≤ (s[0].toNat : Int) ∧ (s[0].toNat : Int) ≤ 255)) := by have := s[0].toNat_lt; show _ ∨ _; omega
  have H0 : Hid (64 ≤ (s[0].toNat : Int) ∧ (s[0].toNat : Int) < 128) := ⟨h0, h⟩
  have HW := wayOf_any (((s[0].toNat % 64) * 256 + s[1].toNat : Nat) : Int)
  rw [(way_2 (n := (((s[0].toNat % 64) * 256 + s[1].toNat : Nat) : Int)) (by omega) (by have := s[1].toNat_lt; omega)).1, (way_2 (n := (((s[0].toNat % 64) * 256 + s[1].toNat : Nat) : Int)) (by omega) (by have := s[1].toNat_lt; omega)).2] at HW
  have hz1 : 0 ≤ (((s[0].toNat % 64) * 256 + s[1].toNat : Nat) : Int) := by omega
  have hz2 : (((s[0].toNat % 64) * 256 + s[1].toNat : Nat) : Int) < 16384 := by have := s[1].toNat_lt; omega
  have h2' : 2 ≤ (s.size : Int) := by omega
  have HL := lenIn_at2 s h2
  clear h0 h hv
  generalize (((s[0].toNat % 64) * 256 + s[1].toNat : Nat) : Int) = x at *
  have HG : Hid _ := HL
  clear HL
  have HW' : Hid _ := HW
  clear HW
  go_enter Tryd.func10, Tryd.ntmps10
  go_wp2_with fail
  refine (formOf_no _ HF.out _).mono ?_
  rintro e w1 ⟨rfl, rfl⟩
  go_wp2_with fail
  refine (lenSize_2 _ H0.out.1 H0.out.2 _).mono ?_
  rintro e w1 ⟨rfl, rfl⟩
  go_wp2_with fail
  refine (HG.out _).mono ?_
  rintro e w1 ⟨rfl, rfl⟩
  go_wp2_with fail
  refine (HW'.out _).mono ?_
  rintro e w1 ⟨rfl, rfl⟩
  go_wp2
  ((try simp only [Exit.inBlock, Exit.then]); refine bodyPost_ret (results_tmp4 rfl _ _ _) rfl ?_)
  exact ⟨by rw [HR.out]; rfl, rfl⟩
set_option maxHeartbeats 400000 in
theorem len_5form (s : ByteArray) (hs : 0 < s.size) (h : (s[0].toNat : Int) = 128) (h2 : 5 ≤ s.size) (hv : val ((tl s.data.toList).take 4) < 16384) (w : World) :
    Calls Tryd.prog 10 #[.string s] w fun e w' => e = .returned (lenT s.data.toList) ∧ w' = w := by
  have he := full_str s hs
  have HR : Hid _ := lenT_eq ((rl_5 (head_tl s hs) h (by rw [list_len]; omega)).trans (if_pos hv))
  have hvb := val_lt 4 ((tl s.data.toList).take 4) (by rw [List.length_take, tl_length, list_len]; omega)
  have HL := lenIn_at5 s h2
  have hz1 : 0 ≤ (val ((tl s.data.toList).take 4) : Int) := by omega
  have h2' : 5 ≤ (s.size : Int) := by omega
  have HW := wayOf_any (val ((tl s.data.toList).take 4) : Int)
  have hne : (waySz (val ((tl s.data.toList).take 4) : Int) != 5) = true := by
    rcases Nat.lt_or_ge (val ((tl s.data.toList).take 4)) 64 with c | c
    · rw [(way_1 (n := (val ((tl s.data.toList).take 4) : Int)) (by omega)).1]; rfl
    · rw [(way_2 (n := (val ((tl s.data.toList).take 4) : Int)) (by omega) (by omega)).1]; rfl
  have hz2 : (val ((tl s.data.toList).take 4) : Int) < 16384 := by omega
  clear hv hvb
  generalize (val ((tl s.data.toList).take 4) : Int) = x at *
  have HG : Hid _ := HL
  clear HL
  have HW' : Hid _ := HW
  clear HW
  go_enter Tryd.func10, Tryd.ntmps10
  go_wp2_with fail
  refine (formOf_no 128 (Or.inl ⟨by omega, by omega⟩) _).mono ?_
  rintro e w1 ⟨rfl, rfl⟩
  go_wp2_with fail
  refine (lenSize_5 _).mono ?_
  rintro e w1 ⟨rfl, rfl⟩
  go_wp2_with fail
  refine (HG.out _).mono ?_
  rintro e w1 ⟨rfl, rfl⟩
  go_wp2_with fail
  refine (HW'.out _).mono ?_
  rintro e w1 ⟨rfl, rfl⟩
  go_wp2
  ((try simp only [Exit.inBlock, Exit.then]); refine bodyPost_ret (results_tmp4 rfl _ _ _) rfl ?_)
  exact ⟨by rw [HR.out]; rfl, rfl⟩
set_option maxHeartbeats 400000 in
theorem len_5ok (s : ByteArray) (hs : 0 < s.size) (h : (s[0].toNat : Int) = 128) (h2 : 5 ≤ s.size) (hv : ¬ val ((tl s.data.toList).take 4) < 16384) (w : World) :
    Calls Tryd.prog 10 #[.string s] w fun e w' => e = .returned (lenT s.data.toList) ∧ w' = w := by
  have he := full_str s hs
  have HR : Hid _ := lenT_eq ((rl_5 (head_tl s hs) h (by rw [list_len]; omega)).trans (if_neg hv))
  have hvb := val_lt 4 ((tl s.data.toList).take 4) (by rw [List.length_take, tl_length, list_len]; omega)
  have HL := lenIn_at5 s h2
  have hz1 : 0 ≤ (val ((tl s.data.toList).take 4) : Int) := by omega
  have h2' : 5 ≤ (s.size : Int) := by omega
  have HW := wayOf_any (val ((tl s.data.toList).take 4) : Int)
  rw [(way_5 (n := (val ((tl s.data.toList).take 4) : Int)) (by omega) (by omega)).1, (way_5 (n := (val ((tl s.data.toList).take 4) : Int)) (by omega) (by omega)).2] at HW
  have hz2 : (val ((tl s.data.toList).take 4) : Int) ≤ 4611686018427387904 := by omega
  clear hv hvb
  generalize (val ((tl s.data.toList).take 4) : Int) = x at *
  have HG : Hid _ := HL
  clear HL
  have HW' : Hid _ := HW
  clear HW
  go_enter Tryd.func10, Tryd.ntmps10
  go_wp2_with fail
  refine (formOf_no 128 (Or.inl ⟨by omega, by omega⟩) _).mono ?_
  rintro e w1 ⟨rfl, rfl⟩
  go_wp2_with fail
  refine (lenSize_5 _).mono ?_
  rintro e w1 ⟨rfl, rfl⟩
  go_wp2_with fail
  refine (HG.out _).mono ?_
  rintro e w1 ⟨rfl, rfl⟩
  go_wp2_with fail
  refine (HW'.out _).mono ?_
  rintro e w1 ⟨rfl, rfl⟩
  go_wp2
  ((try simp only [Exit.inBlock, Exit.then]); refine bodyPost_ret (results_tmp4 rfl _ _ _) rfl ?_)
  exact ⟨by rw [HR.out]; rfl, rfl⟩
set_option maxHeartbeats 400000 in
theorem len_9form (s : ByteArray) (hs : 0 < s.size) (h : (s[0].toNat : Int) = 129) (h2 : 9 ≤ s.size) (hv : val ((tl s.data.toList).take 8) < 4294967296) (w : World) :
    Calls Tryd.prog 10 #[.string s] w fun e w' => e = .returned (lenT s.data.toList) ∧ w' = w := by
  have he := full_str s hs
  have HR : Hid _ := lenT_eq ((rl_9 (head_tl s hs) h (by rw [list_len]; omega)).trans (if_pos (Or.inl hv)))
  have hvb := val_lt 8 ((tl s.data.toList).take 8) (by rw [List.length_take, tl_length, list_len]; omega)
  have HL := lenIn_at9 s h2
  have hz1 : 0 ≤ (val ((tl s.data.toList).take 8) : Int) := by omega
  have h2' : 9 ≤ (s.size : Int) := by omega
  have HW := wayOf_any (val ((tl s.data.toList).take 8) : Int)
  have hne : (waySz (val ((tl s.data.toList).take 8) : Int) != 9) = true := by
    rcases Nat.lt_or_ge (val ((tl s.data.toList).take 8)) 64 with c | c
    · rw [(way_1 (n := (val ((tl s.data.toList).take 8) : Int)) (by omega)).1]; rfl
    · rcases Nat.lt_or_ge (val ((tl s.data.toList).take 8)) 16384 with c2 | c2
      · rw [(way_2 (n := (val ((tl s.data.toList).take 8) : Int)) (by omega) (by omega)).1]; rfl
      · rw [(way_5 (n := (val ((tl s.data.toList).take 8) : Int)) (by omega) (by omega)).1]; rfl
  have hz2 : (val ((tl s.data.toList).take 8) : Int) < 4294967296 := by omega
  clear hv hvb
  generalize (val ((tl s.data.toList).take 8) : Int) = x at *
  have HG : Hid _ := HL
  clear HL
  have HW' : Hid _ := HW
  clear HW
  go_enter Tryd.func10, Tryd.ntmps10
  go_wp2_with fail
  refine (formOf_no 129 (Or.inl ⟨by omega, by omega⟩) _).mono ?_
  rintro e w1 ⟨rfl, rfl⟩
  go_wp2_with fail
  refine (lenSize_9 _).mono ?_
  rintro e w1 ⟨rfl, rfl⟩
  go_wp2_with fail
  refine (HG.out _).mono ?_
  rintro e w1 ⟨rfl, rfl⟩
  go_wp2_with fail
  refine (HW'.out _).mono ?_
  rintro e w1 ⟨rfl, rfl⟩
  go_wp2
  ((try simp only [Exit.inBlock, Exit.then]); refine bodyPost_ret (results_tmp4 rfl _ _ _) rfl ?_)
  exact ⟨by rw [HR.out]; rfl, rfl⟩
set_option maxHeartbeats 400000 in
theorem len_9ok (s : ByteArray) (hs : 0 < s.size) (h : (s[0].toNat : Int) = 129) (h2 : 9 ≤ s.size) (hv : ¬ val ((tl s.data.toList).take 8) < 4294967296) (hg : ¬ 4611686018427387904 < val ((tl s.data.toList).take 8)) (w : World) :
    Calls Tryd.prog 10 #[.string s] w fun e w' => e = .returned (lenT s.data.toList) ∧ w' = w := by
  have he := full_str s hs
  have HR : Hid _ := lenT_eq ((rl_9 (head_tl s hs) h (by rw [list_len]; omega)).trans (if_neg (by omega)))
  have hvb := val_lt 8 ((tl s.data.toList).take 8) (by rw [List.length_take, tl_length, list_len]; omega)
  have HL := lenIn_at9 s h2
  have hz1 : 0 ≤ (val ((tl s.data.toList).take 8) : Int) := by omega
  have h2' : 9 ≤ (s.size : Int) := by omega
  have HW := wayOf_any (val ((tl s.data.toList).take 8) : Int)
  rw [(way_9 (n := (val ((tl s.data.toList).take 8) : Int)) (by omega)).1, (way_9 (n := (val ((tl s.data.toList).take 8) : Int)) (by omega)).2] at HW
  have hz2 : (val ((tl s.data.toList).take 8) : Int) ≤ 4611686018427387904 := by omega
  clear hv hvb hg
  generalize (val ((tl s.data.toList).take 8) : Int) = x at *
  have HG : Hid _ := HL
  clear HL
  have HW' : Hid _ := HW
  clear HW
  go_enter Tryd.func10, Tryd.ntmps10
  go_wp2_with fail
  refine (formOf_no 129 (Or.inl ⟨by omega, by omega⟩) _).mono ?_
  rintro e w1 ⟨rfl, rfl⟩
  go_wp2_with fail
  refine (lenSize_9 _).mono ?_
  rintro e w1 ⟨rfl, rfl⟩
  go_wp2_with fail
  refine (HG.out _).mono ?_
  rintro e w1 ⟨rfl, rfl⟩
  go_wp2_with fail
  refine (HW'.out _).mono ?_
  rintro e w1 ⟨rfl, rfl⟩
  go_wp2
  ((try simp only [Exit.inBlock, Exit.then]); refine bodyPost_ret (results_tmp4 rfl _ _ _) rfl ?_)
  exact ⟨by rw [HR.out]; rfl, rfl⟩
set_option maxHeartbeats 400000 in
theorem len_9big (s : ByteArray) (hs : 0 < s.size) (h : (s[0].toNat : Int) = 129) (h2 : 9 ≤ s.size) (hg : 4611686018427387904 < val ((tl s.data.toList).take 8)) (w : World) :
    Calls Tryd.prog 10 #[.string s] w fun e w' => e = .returned (lenT s.data.toList) ∧ w' = w := by
  have he := full_str s hs
  have HR : Hid _ := lenT_eq ((rl_9 (head_tl s hs) h (by rw [list_len]; omega)).trans (if_pos (Or.inr hg)))
  have hvb := val_lt 8 ((tl s.data.toList).take 8) (by rw [List.length_take, tl_length, list_len]; omega)
  have HL := lenIn_at9 s h2
  have hz1 : 0 ≤ (val ((tl s.data.toList).take 8) : Int) := by omega
  have h2' : 9 ≤ (s.size : Int) := by omega
  have hz2 : 4611686018427387904 < (val ((tl s.data.toList).take 8) : Int) := by omega
  have hz3 : (val ((tl s.data.toList).take 8) : Int) < 18446744073709551616 := by omega
  clear hg hvb
  generalize (val ((tl s.data.toList).take 8) : Int) = x at *
  have HG : Hid _ := HL
  clear HL
  go_enter Tryd.func10, Tryd.ntmps10
  go_wp2_with fail
  refine (formOf_no 129 (Or.inl ⟨by omega, by omega⟩) _).mono ?_
  rintro e w1 ⟨rfl, rfl⟩
  go_wp2_with fail
  refine (lenSize_9 _).mono ?_
  rintro e w1 ⟨rfl, rfl⟩
  go_wp2_with fail
  refine (HG.out _).mono ?_
  rintro e w1 ⟨rfl, rfl⟩
  go_wp2
  ((try simp only [Exit.inBlock, Exit.then]); refine bodyPost_ret (results_tmp4 rfl _ _ _) rfl ?_)
  exact ⟨by rw [HR.out]; rfl, rfl⟩
end Go.Proofs.YtcnicdcjdieodaaDoor
