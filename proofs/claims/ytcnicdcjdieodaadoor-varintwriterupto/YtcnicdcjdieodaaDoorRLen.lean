import Derived.Test.YtcnicdcjdieodaaDoorLen
namespace Go.Proofs.YtcnicdcjdieodaaDoor
open Go.RowKit Vi
set_option linter.unusedVariables false

theorem empty_str (s : ByteArray) (h : s.size = 0) : s = ⟨#[]⟩ := by
  apply WideShapes.bytes_inj
  have := list_len s
  rw [h] at this
  rw [List.length_eq_zero_iff.1 this]
theorem len_any (s : ByteArray) (w : World) :
    Calls Tryd.prog 10 #[.string s] w fun e w' => e = .returned (lenT s.data.toList) ∧ w' = w := by
  by_cases hs0 : s.size = 0
  · rw [empty_str s hs0]; exact len_empty w
  · have hs : 0 < s.size := by omega
    have hb := s[0].toNat_lt
    by_cases c1 : (s[0].toNat : Int) < 64
    · exact len_1 s hs c1 w
    by_cases c2 : (s[0].toNat : Int) < 128
    · by_cases d : s.size < 2
      · exact len_2short s hs (by omega) c2 d w
      · by_cases v : ((s[0].toNat % 64) * 256 + s[1].toNat : Nat) < 64
        · exact len_2form s hs (by omega) c2 (by omega) v w
        · exact len_2ok s hs (by omega) c2 (by omega) v w
    by_cases c3 : (s[0].toNat : Int) = 128
    · by_cases d : s.size < 5
      · exact len_5short s hs c3 d w
      · by_cases v : val ((tl s.data.toList).take 4) < 16384
        · exact len_5form s hs c3 (by omega) v w
        · exact len_5ok s hs c3 (by omega) v w
    by_cases c4 : (s[0].toNat : Int) = 129
    · by_cases d : s.size < 9
      · exact len_9short s hs c4 d w
      · by_cases v : val ((tl s.data.toList).take 8) < 4294967296
        · exact len_9form s hs c4 (by omega) v w
        · by_cases g : 4611686018427387904 < val ((tl s.data.toList).take 8)
          · exact len_9big s hs c4 (by omega) g w
          · exact len_9ok s hs c4 (by omega) v g w
    by_cases c5 : 192 ≤ (s[0].toNat : Int) ∧ (s[0].toNat : Int) ≤ 195
    · exact len_sp s hs c5.1 c5.2 w
    · exact len_bad s hs (by omega) (by omega) w

set_option maxHeartbeats 400000 in
theorem refLen_empty (w : World) :
    Calls Tryd.prog 30 #[.string ⟨#[]⟩] w fun e w' => e = .returned (lenT []) ∧ Below w.heap.size w w' := by
  have HR : Hid _ := lenT_eq rl_nil
  go_enter Tryd.func30, Tryd.ntmps30
  go_wp2
  ((try simp only [Exit.inBlock, Exit.then]); refine bodyPost_ret (results_tmp4 rfl _ _ _) rfl ?_)
  exact ⟨by rw [HR.out]; rfl, Below.refl _ _⟩
theorem wrap_b (b : UInt8) : wrap64 (b.toNat : Int) = (b.toNat : Int) := by have := b.toNat_lt; unfold wrap64; omega
set_option maxHeartbeats 400000 in
theorem refLen_1 (s : ByteArray) (hs : 0 < s.size) (h : (s[0].toNat : Int) < 64) (w : World) :
    Calls Tryd.prog 30 #[.string s] w fun e w' => e = .returned (lenT s.data.toList) ∧ Below w.heap.size w w' := by
  have he := full_str s hs
  have hwb := wrap_b s[0]
  have HR : Hid _ := lenT_eq (rl_1 (head_tl s hs) h)
  have t1 : decide ((s[0].toNat : Int) < 64) = true := by simpa using h
  clear h
  go_enter Tryd.func30, Tryd.ntmps30
  go_wp2
  ((try simp only [Exit.inBlock, Exit.then]); refine bodyPost_ret (results_tmp4 rfl _ _ _) rfl ?_)
  exact ⟨by rw [HR.out]; rfl, Below.refl _ _⟩
theorem value_at2 (s : ByteArray) (h : 2 ≤ s.size) (w : World) :
    Calls Tryd.prog 44 #[.string (s.extract 0 2)] w fun e w' => e = .returned (.int .i64 ((s[0].toNat * 256 + s[1].toNat : Nat) : Int)) ∧ w' = w := by
  have := value_any (s.extract 0 2) (by rw [ext_size s 2 h]; omega) w
  have e : val (s.extract 0 2).data.toList = s[0].toNat * 256 + s[1].toNat := by
    rw [ext_list, take_more _ 1 s[1] (at_list s 1 (by omega)), val_snoc, take_more _ 0 s[0] (at_list s 0 (by omega)), val_snoc]
    simp [val]
  have h0 := s[0].toNat_lt
  have h1 := s[1].toNat_lt
  rw [e, valR_ok (by omega)] at this
  exact this
end Go.Proofs.YtcnicdcjdieodaaDoor
